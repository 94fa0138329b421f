package rules_test

import (
	"math"
	"math/rand"
	"slices"
	"testing"

	"lorry/api"
	"lorry/rules"
)

func wantClosure(t *testing.T, orders int, before, want pairs) {
	t.Helper()
	if got := rules.Closure(orders, before); !slices.Equal(got, want) {
		t.Errorf("Closure(%d, %v) = %v; want %v", orders, before, got, want)
	}
}

// wantNeeds checks what each order needs, in their order.
func wantNeeds(t *testing.T, x api.Instance, want ...int) {
	t.Helper()
	for i, set := range want {
		if got := rules.Needs(x, i); got != set {
			t.Errorf("Needs of %d with the pairs %v = %b; want %b", i, x.Before, got, set)
		}
	}
	wantNoOrder(t, x)
}

// wantNoOrder checks numbers that are not those of orders.
func wantNoOrder(t *testing.T, x api.Instance) {
	t.Helper()
	for _, order := range append(anyInts(), len(x.Orders)) {
		if order < 0 || order >= len(x.Orders) {
			if got := rules.Needs(x, order); got != 0 {
				t.Errorf("Needs of %d of %d orders = %b; want 0", order, len(x.Orders), got)
			}
		}
	}
}

// P12.2
func TestClosureHasItsExample(t *testing.T) {
	wantClosure(t, 3, pairs{{2, 1}, {1, 0}}, pairs{{1, 0}, {2, 0}, {2, 1}})
	wantClosure(t, 3, pairs{{1, 0}, {2, 1}}, pairs{{1, 0}, {2, 0}, {2, 1}})
}

// P12.2
func TestClosureOfNoPairs(t *testing.T) {
	for _, orders := range anyInts() {
		wantClosure(t, orders, nil, nil)
		wantClosure(t, orders, pairs{}, nil)
	}
}

// P12.2
func TestClosureOfChains(t *testing.T) {
	wantClosure(t, 2, chain(0, 1), pairs{{0, 1}})
	wantClosure(t, 2, chain(1, 0), pairs{{1, 0}})
	wantClosure(t, 10, pairs{{2, 9}, {2, 1}, {9, 3}}, pairs{{2, 1}, {2, 3}, {2, 9}, {9, 3}})
	// Two chains that have nothing in common.
	wantClosure(t, 6, together(chain(5, 1, 3), chain(4, 0)), pairs{{1, 3}, {4, 0}, {5, 1}, {5, 3}})
	rising := chain(0, 1, 2, 3, 4, 5, 6, 7, 8, 9)
	wantClosure(t, 10, rising, pairsUp(10))
	slices.Reverse(rising)
	wantClosure(t, 10, rising, pairsUp(10))
	wantClosure(t, 11, rising, pairsUp(10))
}

// pairsUp returns the pairs whose first number is the lesser one, ascending.
func pairsUp(orders int) pairs {
	var l pairs
	for a := range orders {
		for b := a + 1; b < orders; b++ {
			l = append(l, [2]int{a, b})
		}
	}
	return l
}

// P12.2: chains that branch and meet again have each pair once.
func TestClosureOfBranches(t *testing.T) {
	wantClosure(t, 4, pairs{{3, 1}, {3, 2}, {1, 0}, {2, 0}}, pairs{{1, 0}, {2, 0}, {3, 0}, {3, 1}, {3, 2}})
	wantClosure(t, 3, pairs{{0, 2}, {0, 1}, {1, 2}}, pairs{{0, 1}, {0, 2}, {1, 2}})
	wantClosure(t, 4, pairs{{0, 3}, {1, 3}, {2, 3}}, pairs{{0, 3}, {1, 3}, {2, 3}})
	wantClosure(t, 4, pairs{{0, 3}, {0, 2}, {0, 1}}, pairs{{0, 1}, {0, 2}, {0, 3}})
}

// P12.2: from each order of a circle there is a chain to each one, itself included.
func TestClosureOfCircles(t *testing.T) {
	wantClosure(t, 2, circle(0, 1), pairs{{0, 0}, {0, 1}, {1, 0}, {1, 1}})
	wantClosure(t, 3, circle(2, 1, 0), allOf(0, 1, 2))
	wantClosure(t, 10, circle(4, 9, 2, 7, 0, 5, 1, 3, 8, 6), allOf(0, 1, 2, 3, 4, 5, 6, 7, 8, 9))
	// Order 0 is ahead of the circle of 1 and 2, and order 3 is behind it; both are not of the circle.
	wantClosure(t, 4, together(chain(0, 1), circle(1, 2), chain(2, 3)), pairs{{0, 1}, {0, 2}, {0, 3}, {1, 1}, {1, 2}, {1, 3}, {2, 1}, {2, 2}, {2, 3}})
	// Between two circles there are chains in one direction only.
	wantClosure(t, 4, together(circle(2, 3), chain(3, 1), circle(0, 1)), together(allOf(0, 1), pairs{{2, 0}, {2, 1}, {2, 2}, {2, 3}, {3, 0}, {3, 1}, {3, 2}, {3, 3}}))
}

// allOf returns all pairs of orders, equal ones too, ascending.
func allOf(orders ...int) pairs {
	var l pairs
	for _, a := range orders {
		for _, b := range orders {
			l = append(l, [2]int{a, b})
		}
	}
	return l
}

// P12.2: 16 pairs have up to 32 orders, with any numbers.
func TestClosureKnowsManyOrders(t *testing.T) {
	var apart, star, long pairs
	var through pairs
	numbers := []int{1000}
	for i := range 16 {
		apart = append(apart, [2]int{2 * i, 2*i + 1})
		star = append(star, [2]int{50 + i, 40})
		numbers = append(numbers, 1001+i)
	}
	wantClosure(t, 32, apart, apart)
	wantClosure(t, 66, star, star)
	long = chain(numbers...)
	for i, a := range numbers {
		for _, b := range numbers[i+1:] {
			through = append(through, [2]int{a, b})
		}
	}
	wantClosure(t, 1017, long, through)
	wantClosure(t, math.MaxInt, pairs{{70, math.MaxInt - 1}, {3, 70}}, pairs{{3, 70}, {3, math.MaxInt - 1}, {70, math.MaxInt - 1}})
	// Numbers that would be the same bit of a set are different orders.
	wantClosure(t, 200, pairs{{1, 64}, {128, 65}, {0, 2}}, pairs{{0, 2}, {1, 64}, {128, 65}})
	wantClosure(t, 17, circle(0, 1, 2, 3, 4, 5, 6, 7, 8, 9, 10, 11, 12, 13, 14, 15), allOf(0, 1, 2, 3, 4, 5, 6, 7, 8, 9, 10, 11, 12, 13, 14, 15))
}

// P12.2: a model that does not follow chains.
func TestClosureOfDrawnPairs(t *testing.T) {
	for bits := range 1 << 12 {
		before := chosen(allPairs(4), bits)
		wantClosure(t, 4, before, closureOf(4, before))
	}
	r := rand.New(rand.NewSource(123))
	for range 3000 {
		orders := 2 + r.Intn(20)
		before := drawnBefore(r, orders)
		wantClosure(t, orders, before, closureOf(orders, before))
	}
}

// P12.2
func TestNeedsOfChains(t *testing.T) {
	wantNeeds(t, instance(0, nil, nil))
	wantNeeds(t, instance(1, nil, nil), 1)
	wantNeeds(t, instance(3, nil, nil), 1, 2, 4)
	wantNeeds(t, instance(2, nil, chain(0, 1)), 1, 3)
	wantNeeds(t, instance(2, nil, chain(1, 0)), 3, 2)
	wantNeeds(t, instance(3, nil, chain(2, 1, 0)), 7, 6, 4)
	wantNeeds(t, instance(10, nil, chain(0, 1, 2, 3, 4, 5, 6, 7, 8, 9)), 1, 3, 7, 15, 31, 63, 127, 255, 511, 1023)
	wantNeeds(t, instance(10, nil, chain(9, 8, 7, 6, 5, 4, 3, 2, 1, 0)), 1023, 1022, 1020, 1016, 1008, 992, 960, 896, 768, 512)
	wantNeeds(t, instance(4, nil, pairs{{3, 1}, {3, 2}, {1, 0}, {2, 0}}), 15, 10, 12, 8)
	wantNeeds(t, instance(5, pairs{{0, 1}, {3, 4}}, pairs{{2, 1}, {1, 4}, {3, 4}}), 1, 6, 4, 8, 30)
}

// P12.2: an order of a circle needs all of it, one behind it does, too, and one ahead of it does not.
func TestNeedsOfCircles(t *testing.T) {
	wantNeeds(t, instance(3, nil, circle(0, 1)), 3, 3, 4)
	wantNeeds(t, instance(4, nil, circle(3, 0, 2)), 13, 2, 13, 13)
	wantNeeds(t, instance(4, nil, together(chain(0, 1), circle(1, 2), chain(2, 3))), 1, 7, 7, 15)
	wantNeeds(t, instance(10, nil, circle(4, 9, 2, 7, 0, 5, 1, 3, 8, 6)), slices.Repeat([]int{1023}, 10)...)
}

// P12.2: neither Off nor Apart plays a part.
func TestNeedsOfCancelledOrders(t *testing.T) {
	x := instance(4, pairs{{0, 1}, {1, 2}, {0, 2}}, chain(0, 1, 2))
	wantNeeds(t, x, 1, 3, 7, 8)
	for set := range 16 {
		y := without(x)
		for i := range y.Orders {
			y.Orders[i].Off = set>>i&1 == 1
		}
		wantNeeds(t, y, 1, 3, 7, 8)
	}
}

// P12.2
func TestNeedsOfDrawnPairs(t *testing.T) {
	for bits := range 1 << 12 {
		wantModelNeeds(t, instance(4, nil, chosen(allPairs(4), bits)))
	}
	r := rand.New(rand.NewSource(124))
	for range 3000 {
		wantModelNeeds(t, drawn(r))
	}
}

func wantModelNeeds(t *testing.T, x api.Instance) {
	t.Helper()
	var want []int
	for i := range x.Orders {
		want = append(want, needsOf(x, i))
	}
	wantNeeds(t, x, want...)
}
