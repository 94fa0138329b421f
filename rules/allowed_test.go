package rules_test

import (
	"math"
	"math/rand"
	"testing"

	"lorry/api"
	"lorry/rules"
)

func wantAllowed(t *testing.T, x api.Instance, want api.Errno, sets ...int) {
	t.Helper()
	for _, set := range sets {
		if got := rules.Allowed(x, set); got != want {
			t.Errorf("Allowed of %b with %s = %d; want %d", set, show(x), got, want)
		}
	}
}

func wantNever(t *testing.T, x api.Instance, orders ...int) {
	t.Helper()
	if got := rules.Never(x); got != setOf(orders...) {
		t.Errorf("Never with %s = %b; want %b", show(x), got, setOf(orders...))
	}
}

// P12.3: any set of orders without pairs.
func TestAllowedWithoutPairs(t *testing.T) {
	for orders := range 11 {
		x := instance(orders, nil, nil)
		for set := range 1 << orders {
			wantAllowed(t, x, api.OK, set)
		}
		wantAllowed(t, x, api.ErrArg, 1<<orders, 1<<orders+1, 2<<orders, 2<<orders-1, 1<<62, math.MaxInt)
		wantAllowed(t, x, api.ErrArg, -1, -2, -1<<32, math.MinInt, math.MinInt+1)
	}
}

// P12.3: whatever the pairs are.
func TestAllowedOfTheEmptySet(t *testing.T) {
	for x := range smallInstances() {
		wantAllowed(t, x, api.OK, 0)
	}
}

// P12.3
func TestAllowedOfCancelledOrders(t *testing.T) {
	x := without(instance(3, nil, nil), 1)
	wantAllowed(t, x, api.OK, 0, 1, 4, 5)
	wantAllowed(t, x, api.ErrState, 2, 3, 6, 7)
	x = without(instance(10, nil, nil), 0, 9)
	wantAllowed(t, x, api.OK, 2, 510)
	wantAllowed(t, x, api.ErrState, 1, 512, 513, 1023)
}

// P12.3: a pair of Apart can be named either way.
func TestAllowedOfPairsOfApart(t *testing.T) {
	for _, apart := range []pairs{{{0, 2}}, {{2, 0}}} {
		x := instance(4, apart, nil)
		wantAllowed(t, x, api.OK, 0, 1, 2, 3, 4, 6, 8, 9, 12, 11, 14)
		wantAllowed(t, x, api.ErrApart, 5, 7, 13, 15)
	}
	x := instance(10, pairs{{0, 1}, {9, 8}}, nil)
	wantAllowed(t, x, api.OK, 1, 2, 256, 512, 257, 514)
	wantAllowed(t, x, api.ErrApart, 3, 768, 771, 1023)
}

// P12.3: an order is not allowed without all that it needs; these are allowed without it.
func TestAllowedOfPairsOfBefore(t *testing.T) {
	x := instance(3, nil, chain(2, 1))
	wantAllowed(t, x, api.OK, 0, 1, 4, 5, 6, 7)
	wantAllowed(t, x, api.ErrBefore, 2, 3)
	x = instance(3, nil, chain(2, 1, 0))
	wantAllowed(t, x, api.OK, 0, 4, 6, 7)
	wantAllowed(t, x, api.ErrBefore, 1, 2, 3, 5)
	x = instance(4, nil, pairs{{3, 1}, {3, 2}, {1, 0}, {2, 0}})
	wantAllowed(t, x, api.OK, 0, 8, 10, 12, 14, 15)
	wantAllowed(t, x, api.ErrBefore, 1, 2, 4, 6, 7, 9, 11, 13)
	x = instance(10, nil, chain(0, 1, 2, 3, 4, 5, 6, 7, 8, 9))
	for set := range 1 << 10 {
		want := api.ErrBefore
		if set&(set+1) == 0 {
			want = api.OK
		}
		wantAllowed(t, x, want, set)
	}
}

// P12.3: an order of a circle is not allowed, even with the whole circle, nor one behind it; one ahead of it is.
func TestAllowedOfCircles(t *testing.T) {
	x := instance(3, nil, circle(0, 1))
	wantAllowed(t, x, api.OK, 0, 4)
	wantAllowed(t, x, api.ErrBefore, 1, 2, 3, 5, 6, 7)
	x = instance(4, nil, together(chain(0, 1), circle(1, 2), chain(2, 3)))
	wantAllowed(t, x, api.OK, 0, 1)
	for set := 2; set < 16; set++ {
		wantAllowed(t, x, api.ErrBefore, set)
	}
	x = instance(10, nil, circle(4, 9, 2, 7, 0, 5, 1, 3, 8, 6))
	for set := 1; set < 1<<10; set++ {
		wantAllowed(t, x, api.ErrBefore, set)
	}
}

// P12.3, R2: of several errors the first one.
func TestAllowedReturnsTheFirstError(t *testing.T) {
	// Order 0 is cancelled, 1 and 2 are apart, 3 needs 4, and 5 and 6 are a circle.
	x := without(instance(7, pairs{{1, 2}}, together(chain(4, 3), circle(5, 6))), 0)
	cancelled, apart, alone, round, none := setOf(0), setOf(1, 2), setOf(3), setOf(5, 6), setOf(7)
	wantAllowed(t, x, api.OK, 0, setOf(1), setOf(2, 4), setOf(1, 3, 4))
	for _, wrong := range []int{alone, round, setOf(5), alone + round} {
		wantAllowed(t, x, api.ErrBefore, wrong, wrong+setOf(1))
		wantAllowed(t, x, api.ErrApart, apart, wrong+apart)
		wantAllowed(t, x, api.ErrState, cancelled, cancelled+apart, cancelled+wrong, cancelled+apart+wrong)
		wantAllowed(t, x, api.ErrArg, none, none+cancelled, none+apart, none+wrong, none+cancelled+apart+wrong)
		wantAllowed(t, x, api.ErrArg, math.MinInt, math.MinInt+cancelled, math.MinInt+apart+wrong, -1)
	}
	// One order has all errors at once, and a needed order is cancelled or apart.
	x = without(instance(2, pairs{{0, 1}}, circle(0, 1)), 1)
	wantAllowed(t, x, api.ErrBefore, 1)
	wantAllowed(t, x, api.ErrState, 2, 3)
	wantAllowed(t, instance(2, pairs{{1, 0}}, circle(0, 1)), api.ErrApart, 3)
}

// P12.3: all sets of all small instances, and those of drawn ones.
func TestAllowedOfEachSet(t *testing.T) {
	for x := range smallInstances() {
		wantModelAllowed(t, x)
	}
	r := rand.New(rand.NewSource(125))
	for range 300 {
		wantModelAllowed(t, drawn(r))
	}
}

func wantModelAllowed(t *testing.T, x api.Instance) {
	t.Helper()
	for set := -1; set <= 1<<len(x.Orders); set++ {
		wantAllowed(t, x, allowedOf(x, set), set)
	}
}

// P12.3
func TestNeverHasOrdersThatCannotBeServed(t *testing.T) {
	wantNever(t, instance(0, nil, nil))
	wantNever(t, instance(10, nil, nil))
	wantNever(t, instance(10, nil, chain(0, 1, 2, 3, 4, 5, 6, 7, 8, 9)))
	// Circles, and an order behind one.
	wantNever(t, instance(2, nil, circle(0, 1)), 0, 1)
	wantNever(t, instance(5, nil, circle(4, 0, 2)), 0, 2, 4)
	wantNever(t, instance(5, nil, together(chain(0, 1), circle(1, 2), chain(2, 3))), 1, 2, 3)
	// Orders that need both orders of a pair of Apart, or one that they are apart from.
	wantNever(t, instance(3, pairs{{0, 1}}, nil))
	wantNever(t, instance(4, pairs{{0, 1}}, pairs{{0, 2}, {1, 2}, {2, 3}}), 2, 3)
	wantNever(t, instance(4, pairs{{2, 0}}, chain(0, 1, 2, 3)), 2, 3)
	wantNever(t, instance(5, pairs{{0, 1}, {3, 4}}, pairs{{2, 1}, {1, 4}, {3, 4}}), 4)
}

// P12.3: cancelled orders are not in it, but those that need them are.
func TestNeverOfCancelledOrders(t *testing.T) {
	wantNever(t, without(instance(3, nil, nil), 0, 2))
	wantNever(t, without(instance(3, nil, chain(0, 1, 2)), 0), 1, 2)
	wantNever(t, without(instance(3, nil, chain(0, 1, 2)), 1), 2)
	wantNever(t, without(instance(3, nil, chain(0, 1, 2)), 2))
	wantNever(t, without(instance(3, nil, circle(0, 1)), 0), 1)
	wantNever(t, without(instance(3, nil, circle(0, 1)), 0, 1))
	wantNever(t, without(instance(3, pairs{{0, 1}}, pairs{{0, 2}, {1, 2}}), 2))
	wantNever(t, without(instance(10, nil, chain(9, 0)), 9), 0)
}

// P12.3: of all small instances, and of drawn ones.
func TestNeverOfEachInstance(t *testing.T) {
	for x := range smallInstances() {
		if got := rules.Never(x); got != neverOf(x) {
			t.Errorf("Never with %s = %b; want %b", show(x), got, neverOf(x))
		}
	}
	r := rand.New(rand.NewSource(126))
	for range 3000 {
		if x := drawn(r); rules.Never(x) != neverOf(x) {
			t.Errorf("Never with %s = %b; want %b", show(x), rules.Never(x), neverOf(x))
		}
	}
}
