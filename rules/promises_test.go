package rules_test

import (
	"math/rand"
	"slices"
	"testing"

	"lorry/api"
	"lorry/rules"
)

// P12.4
func TestClosureIsTransitive(t *testing.T) {
	for bits := range 1 << 12 {
		wantTransitive(t, 4, chosen(allPairs(4), bits))
	}
	r := rand.New(rand.NewSource(127))
	for range 3000 {
		orders := 2 + r.Intn(20)
		wantTransitive(t, orders, drawnBefore(r, orders))
	}
}

func wantTransitive(t *testing.T, orders int, before pairs) {
	t.Helper()
	l := rules.Closure(orders, before)
	in := make(map[[2]int]bool)
	for _, p := range l {
		in[p] = true
	}
	for _, p := range before {
		if !in[p] {
			t.Errorf("Closure(%d, %v) = %v does not contain %v", orders, before, l, p)
		}
	}
	for _, p := range l {
		for _, q := range l {
			if p[1] == q[0] && !in[[2]int{p[0], q[1]}] {
				t.Errorf("Closure(%d, %v) = %v contains %v and %v alone", orders, before, l, p, q)
			}
		}
	}
}

// P12.4: as far as Check accepts it, the closure is its own closure.
func TestClosureOfClosure(t *testing.T) {
	accepted := 0
	same := func(orders int, before pairs) {
		t.Helper()
		if l := rules.Closure(orders, before); len(rules.Check(orders, nil, l)) == 0 {
			accepted++
			wantClosure(t, orders, l, l)
		}
	}
	for bits := range 1 << 12 {
		same(4, chosen(allPairs(4), bits))
	}
	r := rand.New(rand.NewSource(128))
	for range 3000 {
		orders := 2 + r.Intn(20)
		same(orders, drawnBefore(r, orders))
	}
	same(9, together(chain(8, 7, 6, 5, 4), chain(3, 2, 1, 0)))
	if accepted < 1000 {
		t.Errorf("only %d closures were accepted", accepted)
	}
}

// eachInstance calls a function with all small instances, and with drawn ones.
func eachInstance(seed int64, check func(x api.Instance)) {
	for x := range smallInstances() {
		check(x)
	}
	r := rand.New(rand.NewSource(seed))
	for range 300 {
		check(drawn(r))
	}
}

// allowedSets returns all sets that are allowed.
func allowedSets(x api.Instance) []int {
	var l []int
	for set := range 1 << len(x.Orders) {
		if rules.Allowed(x, set) == api.OK {
			l = append(l, set)
		}
	}
	return l
}

// members returns the orders of a set, each with the set without it.
func members(set int) map[int]int {
	m := make(map[int]int)
	for i := range 63 {
		if set>>i&1 == 1 {
			m[i] = set - 1<<i
		}
	}
	return m
}

// P12.5: an allowed set contains what its orders need, and no order of Never.
func TestAllowedSetsAreComplete(t *testing.T) {
	eachInstance(129, func(x api.Instance) {
		never := rules.Never(x)
		for _, set := range allowedSets(x) {
			for order := range members(set) {
				if needs := rules.Needs(x, order); needs&set != needs {
					t.Errorf("%b is allowed with %s, but %d needs %b", set, show(x), order, needs)
				}
			}
			if set&never != 0 {
				t.Errorf("%b is allowed with %s, but %b is never", set, show(x), never)
			}
		}
	})
}

// P12.5: an order is in Never just if it is in no allowed set, and not cancelled.
func TestNeverHasTheOrdersOfNoAllowedSet(t *testing.T) {
	eachInstance(130, func(x api.Instance) {
		served := 0
		for _, set := range allowedSets(x) {
			served |= set
		}
		never := rules.Never(x)
		for i, o := range x.Orders {
			if want := !o.Off && served>>i&1 == 0; want != (never>>i&1 == 1) {
				t.Errorf("Never with %s = %b, but an allowed set with %d: %v", show(x), never, i, served>>i&1 == 1)
			}
		}
		if never >= 1<<len(x.Orders) {
			t.Errorf("Never with %s = %b", show(x), never)
		}
	})
}

// P12.6
func TestAllowedSetsStayAllowed(t *testing.T) {
	checked := 0
	eachInstance(131, func(x api.Instance) {
		for _, set := range allowedSets(x) {
			for order, rest := range members(set) {
				if isNeeded(x, rest, order) {
					continue
				}
				checked++
				if err := rules.Allowed(x, rest); err != api.OK {
					t.Errorf("with %s %b is allowed, but not without %d: %d", show(x), set, order, err)
				}
			}
		}
	})
	if checked < 10000 {
		t.Errorf("only %d sets were checked", checked)
	}
}

// isNeeded reports whether an order of a set needs one.
func isNeeded(x api.Instance, set, order int) bool {
	for other := range members(set) {
		if rules.Needs(x, other)>>order&1 == 1 {
			return true
		}
	}
	return false
}

// P12.6: without an order that another one needs, a set is not allowed.
func TestNeededOrdersStay(t *testing.T) {
	eachInstance(132, func(x api.Instance) {
		for _, set := range allowedSets(x) {
			for order, rest := range members(set) {
				if isNeeded(x, rest, order) && rules.Allowed(x, rest) != api.ErrBefore {
					t.Errorf("with %s %b is allowed without %d", show(x), rest, order)
				}
			}
		}
	})
	if l := allowedSets(instance(3, nil, chain(2, 1, 0))); !slices.Equal(l, []int{0, 4, 6, 7}) {
		t.Errorf("%v", l)
	}
}
