package instance_test

import (
	"math"
	"math/rand"
	"reflect"
	"slices"
	"testing"

	"lorry/api"
	"lorry/instance"
)

// onlyOf follows the chapter: it gives the orders of a set that is right their new numbers first.
func onlyOf(x api.Instance, set int) (api.Instance, []int) {
	y := cloned(x)
	y.Orders, y.Apart, y.Before = nil, nil, nil
	var numbers []int
	renamed := map[int]int{}
	for i, o := range x.Orders {
		if in(set, i) {
			renamed[i] = len(numbers)
			numbers, y.Orders = append(numbers, i), append(y.Orders, o)
		}
	}
	some := func(l pairs) pairs {
		var kept pairs
		for _, p := range l {
			a, first := renamed[p[0]]
			b, second := renamed[p[1]]
			if first && second {
				kept = append(kept, [2]int{a, b})
			}
		}
		return kept
	}
	y.Apart, y.Before = some(x.Apart), some(x.Before)
	return y, numbers
}

func wantOnly(t *testing.T, x api.Instance, set int) {
	t.Helper()
	got, numbers, err := instance.Only(x, set)
	want, wantNumbers := onlyOf(x, set)
	if err != api.OK || !equal(got, want) || !slices.Equal(numbers, wantNumbers) {
		t.Errorf("Only of %b of %d orders, apart %v, before %v = %+v, %v, %d; want %+v, %v", set, len(x.Orders), x.Apart, x.Before, got, numbers, err, want, wantNumbers)
	}
}

func wantNoOnly(t *testing.T, x api.Instance, set int) {
	t.Helper()
	y, numbers, err := instance.Only(x, set)
	if err != api.ErrArg || len(numbers) > 0 || !reflect.DeepEqual(y, api.Instance{}) {
		t.Errorf("Only of %d of %d orders = %+v, %v, %d; want ErrArg", set, len(x.Orders), y, numbers, err)
	}
}

// P13.2
func TestOnlyHasItsExample(t *testing.T) {
	x := town(4)
	x.Apart, x.Before = pairs{{1, 3}}, pairs{{1, 2}}
	y, numbers := only(t, x, 10)
	if !slices.Equal(numbers, []int{1, 3}) || !slices.Equal(y.Apart, pairs{{0, 1}}) || len(y.Before) > 0 {
		t.Errorf("%v, apart %v, before %v", numbers, y.Apart, y.Before)
	}
	if len(y.Orders) != 2 || y.Orders[0].Name != "o1" || y.Orders[1].Name != "o3" {
		t.Errorf("%+v", y.Orders)
	}
}

// P13.2, example 1
func TestOnlyOfTheEmptySet(t *testing.T) {
	for orders := range 11 {
		x := town(orders)
		wantOnly(t, x, 0)
		y, numbers := only(t, x, 0)
		if len(y.Orders)+len(y.Apart)+len(y.Before)+len(numbers) > 0 || !equal(y, town(0)) {
			t.Errorf("%+v, %v", y, numbers)
		}
	}
	wantOnly(t, api.Instance{}, 0)
}

// P13.2: errors; the sets of instances with up to 60 orders, and of more.
func TestOnlyKnowsTheOrders(t *testing.T) {
	for orders := range 61 {
		x := crowd(orders)
		every := 1<<orders - 1
		wantOnly(t, x, every)
		wantNoOnly(t, x, every+1)
		wantNoOnly(t, x, every+every+1)
		for i := range 62 {
			if i < orders {
				wantOnly(t, x, 1<<i)
				wantOnly(t, x, every-1<<i)
			} else {
				wantNoOnly(t, x, 1<<i)
				wantNoOnly(t, x, every+1<<i)
			}
		}
		for _, set := range []int{-1, -2, -1 << 10, -1 << 32, -1 << 60, math.MinInt, math.MinInt + 1, 1 << 62, math.MaxInt} {
			wantNoOnly(t, x, set)
		}
	}
	wantNoOnly(t, api.Instance{}, 1)
	wantNoOnly(t, api.Instance{}, -1)
}

// P13.2: each set of an instance with many pairs.
func TestOnlyOfEachSet(t *testing.T) {
	x := town(6)
	for i := range x.Orders {
		x.Orders[i].Penalty, x.Orders[i].Off = 100*i, i == 2
	}
	x.Apart, x.Before = nil, nil
	for a := range 6 {
		for b := range 6 {
			x.Apart, x.Before = append(x.Apart, [2]int{a, b}), append(x.Before, [2]int{b, 5 - a})
		}
	}
	for set := range 1 << 6 {
		wantOnly(t, x, set)
	}
	for set := 1 << 6; set < 1<<8; set++ {
		wantNoOnly(t, x, set)
	}
}

// P13.2: pairs of which both orders, one, and none are in the set, in Apart alone and in Before alone; also those that no valid instance has.
func TestOnlyLooksAtBothOrdersOfAPair(t *testing.T) {
	for a := -1; a <= 4; a++ {
		for b := -1; b <= 4; b++ {
			for set := range 1 << 4 {
				both := a >= 0 && b >= 0 && in(set, a) && in(set, b)
				for _, lists := range [][2]pairs{{{{a, b}}, nil}, {nil, {{a, b}}}, {{{a, b}}, {{a, b}}}} {
					x := town(4)
					x.Apart, x.Before = lists[0], lists[1]
					y, _ := only(t, x, set)
					if (len(y.Apart) > 0) != (both && len(lists[0]) > 0) || (len(y.Before) > 0) != (both && len(lists[1]) > 0) {
						t.Errorf("the pairs %v of %b became %v and %v", lists, set, y.Apart, y.Before)
					}
					wantOnly(t, x, set)
				}
			}
		}
	}
}

// P13.2: numbers that are far from those of orders.
func TestOnlyTakesAnyPairs(t *testing.T) {
	x := crowd(60)
	for _, a := range anyInts() {
		for _, b := range anyInts() {
			x.Apart, x.Before = append(x.Apart, [2]int{a, b}), append(x.Before, [2]int{b, a}, [2]int{a, 59}, [2]int{0, b})
		}
	}
	for _, set := range []int{0, 1, 3, 1<<60 - 1, 1 << 59, 1<<59 + 1, 0x0a5a5a5a5a5a5a5a} {
		wantOnly(t, x, set)
	}
}

// P13.2: for any instances, valid or not, with up to 60 orders.
func TestOnlyOfDrawnInstances(t *testing.T) {
	r := rand.New(rand.NewSource(134))
	for range 3000 {
		x := mixed(r)
		every := 1<<len(x.Orders) - 1
		wantOnly(t, x, r.Int()&every)
		wantOnly(t, x, r.Int()&r.Int()&r.Int()&every)
		wantOnly(t, x, every)
		if set := r.Int(); set > every {
			wantNoOnly(t, x, set)
		}
		wantNoOnly(t, x, -1-r.Int())
	}
}
