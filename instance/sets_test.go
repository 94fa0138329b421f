package instance_test

import (
	"math"
	"math/rand"
	"testing"

	"lorry/api"
	"lorry/instance"
)

func wantSets(t *testing.T, x api.Instance, all, must int) {
	t.Helper()
	if got := instance.All(x); got != all {
		t.Errorf("All of %+v = %b; want %b", x.Orders, got, all)
	}
	if got := instance.Must(x); got != must {
		t.Errorf("Must of %+v = %b; want %b", x.Orders, got, must)
	}
}

// priced returns orders with these Penalties, of which those of a set are cancelled.
func priced(off int, penalties ...int) api.Instance {
	x := crowd(len(penalties))
	for i, penalty := range penalties {
		x.Orders[i].Penalty, x.Orders[i].Off = penalty, in(off, i)
	}
	return x
}

// P13.3
func TestSetsHaveTheirExamples(t *testing.T) {
	wantSets(t, priced(setOf(1), 7, 7, 7), 5, 0)
	wantSets(t, priced(0, -1, 50, -1), 7, 5)
}

// P13.3: without orders, with all of them cancelled, and with some of these.
func TestSetsLeaveCancelledOrdersOut(t *testing.T) {
	wantSets(t, api.Instance{}, 0, 0)
	wantSets(t, town(0), 0, 0)
	for orders := range 8 {
		for off := range 1 << orders {
			for must := range 1 << orders {
				penalties := make([]int, orders)
				all, served := 0, 0
				for i := range penalties {
					if in(must, i) {
						penalties[i] = -1
					}
					if !in(off, i) {
						all += 1 << i
						served += -penalties[i] << i
					}
				}
				wantSets(t, priced(off, penalties...), all, served)
			}
		}
	}
}

// P13.3: only the Penalty -1 says that an order must be served.
func TestMustLooksAtThePenalty(t *testing.T) {
	for _, penalty := range []int{math.MinInt, -1 << 32, -3, -2, 0, 1, 2, 50, 1000000, 1000001, 1<<32 - 1, math.MaxInt} {
		wantSets(t, priced(0, penalty), 1, 0)
		wantSets(t, priced(0, -1, penalty, -1), 7, 5)
		wantSets(t, priced(2, -1, penalty, -1), 5, 5)
		wantSets(t, priced(1, -1, penalty, -1), 6, 4)
	}
}

// P13.3: each of up to 60 orders has its own number.
func TestSetsHaveSixtyOrders(t *testing.T) {
	for orders := range 61 {
		every := 0
		for i := range orders {
			every += 1 << i
		}
		wantSets(t, crowd(orders), every, every)
		for i := range orders {
			x := crowd(orders)
			x.Orders[i].Off = true
			wantSets(t, x, every-1<<i, every-1<<i)
			x.Orders[i].Off, x.Orders[i].Penalty = false, 0
			wantSets(t, x, every, every-1<<i)
		}
	}
}

// P13.3: for any instances; nothing but Off and Penalty matters.
func TestSetsOfDrawnInstances(t *testing.T) {
	r := rand.New(rand.NewSource(135))
	for range 3000 {
		x := many(r)
		all, must := 0, 0
		for i, o := range x.Orders {
			if o.Off {
				continue
			}
			all += 1 << i
			if o.Penalty == -1 {
				must += 1 << i
			}
		}
		wantSets(t, x, all, must)
		if instance.Must(x)|instance.All(x) != instance.All(x) {
			t.Errorf("Must %b is not in All %b", instance.Must(x), instance.All(x))
		}
	}
}
