package rules_test

import (
	"math"
	"math/rand"
	"slices"
	"strconv"
	"testing"

	"lorry/api"
	"lorry/rules"
)

// at returns a fault at a path.
func at(err api.Errno, path string) api.Fault { return api.Fault{Err: err, At: path} }

func wantFaults(t *testing.T, orders int, apart, before pairs, want ...api.Fault) {
	t.Helper()
	if got := rules.Check(orders, apart, before); !slices.Equal(got, want) {
		t.Errorf("Check(%d, %v, %v) = %v; want %v", orders, apart, before, got, want)
	}
}

// wantBoth checks a list as pairs of Apart, as pairs of Before, and as both; the errors are those of its pairs.
func wantBoth(t *testing.T, orders int, l pairs, errs map[int]api.Errno) {
	t.Helper()
	apart, before := faultsAt("apart", l, errs), faultsAt("before", l, errs)
	wantFaults(t, orders, l, nil, apart...)
	wantFaults(t, orders, nil, l, before...)
	wantFaults(t, orders, l, l, slices.Concat(apart, before)...)
}

// faultsAt returns the faults of a list, with that of its length.
func faultsAt(name string, l pairs, errs map[int]api.Errno) []api.Fault {
	var faults []api.Fault
	if len(l) > 16 {
		faults = append(faults, at(api.ErrSize, name))
	}
	for i := range l {
		if errs[i] != api.OK {
			faults = append(faults, at(errs[i], name+" "+strconv.Itoa(i)))
		}
	}
	return faults
}

// P12.1
func TestCheckAcceptsPairs(t *testing.T) {
	for _, orders := range []int{math.MinInt, -1, 0, 1, 2, 10, 11, math.MaxInt} {
		wantFaults(t, orders, nil, nil)
		wantFaults(t, orders, pairs{}, pairs{})
	}
	wantBoth(t, 2, pairs{{0, 1}}, nil)
	wantBoth(t, 3, pairs{{2, 0}, {0, 1}, {2, 1}}, nil)
	wantFaults(t, 3, pairs{{0, 1}, {2, 1}}, pairs{{0, 1}, {1, 0}})
	r := rand.New(rand.NewSource(121))
	for range 300 {
		orders := 2 + r.Intn(9)
		wantFaults(t, orders, drawnApart(r, orders), drawnBefore(r, orders))
	}
}

// P12.1: circles are no faults.
func TestCheckAcceptsCircles(t *testing.T) {
	wantFaults(t, 2, nil, circle(0, 1))
	wantFaults(t, 3, nil, circle(0, 2, 1))
	wantFaults(t, 10, nil, circle(0, 1, 2, 3, 4, 5, 6, 7, 8, 9))
	wantFaults(t, 4, nil, together(circle(0, 1), circle(2, 3), chain(0, 2), chain(1, 3)))
}

// P12.1: the limit of pairs; those behind it are checked, too, also at numbers of several digits.
func TestCheckCountsThePairs(t *testing.T) {
	every := allPairs(16)[:120]
	for count := range 40 {
		l := every[:count]
		wantBoth(t, 16, l, nil)
		for i := range l {
			one := slices.Clone(l)
			one[i] = [2]int{16, 3}
			wantBoth(t, 16, one, map[int]api.Errno{i: api.ErrArg})
		}
	}
	wantBoth(t, 5, allPairs(5)[:10], nil)
	wantFaults(t, 5, nil, allPairs(5)[:16])
	wantFaults(t, 5, nil, allPairs(5)[:17], at(api.ErrSize, "before"))
	long := append(slices.Clone(every), [2]int{0, 1}, [2]int{5, 5})
	wantBoth(t, 16, long, map[int]api.Errno{120: api.ErrTwice, 121: api.ErrArg})
	// Each list has a limit of its own.
	wantFaults(t, 16, every[:17], every[:16], at(api.ErrSize, "apart"))
	wantFaults(t, 16, every[:16], every[:17], at(api.ErrSize, "before"))
}

// P12.1: both numbers are those of orders, however many there are, and different.
func TestCheckKnowsTheOrders(t *testing.T) {
	for _, orders := range append(anyInts(), 4, 5, 6) {
		numbers := append(anyInts(), 4, 5, 6)
		if orders > math.MinInt+1 && orders < math.MaxInt {
			numbers = append(numbers, orders-2, orders-1, orders, orders+1)
		}
		for _, a := range numbers {
			for _, b := range numbers {
				errs := map[int]api.Errno{0: api.ErrArg}
				if 0 <= a && a < orders && 0 <= b && b < orders && a != b {
					errs = nil
				}
				wantBoth(t, orders, pairs{{a, b}}, errs)
			}
		}
	}
}

// P12.1: the numbers next to those of the orders, each one first and second.
func TestCheckRefusesWrongPairs(t *testing.T) {
	for _, orders := range []int{-1, 0, 1} {
		for _, p := range (pairs{{0, 1}, {1, 0}, {0, 0}, {-1, 0}, {0, -1}, {-1, -2}, {1, 1}}) {
			wantBoth(t, orders, pairs{p}, map[int]api.Errno{0: api.ErrArg})
		}
	}
	for orders := 2; orders <= 12; orders++ {
		last := orders - 1
		wantBoth(t, orders, pairs{{0, last}}, nil)
		wantBoth(t, orders, pairs{{last, 0}}, nil)
		for _, p := range (pairs{{0, orders}, {orders, 0}, {-1, last}, {last, -1}, {0, 0}, {last, last}, {orders, orders}, {-1, -1}, {-1, orders}}) {
			wantBoth(t, orders, pairs{p}, map[int]api.Errno{0: api.ErrArg})
			wantBoth(t, orders, pairs{{0, last}, p, {0, last}}, map[int]api.Errno{1: api.ErrArg, 2: api.ErrTwice})
		}
	}
}

// P12.1: a pair is compared with every earlier one of its list.
func TestCheckComparesPairs(t *testing.T) {
	every := allPairs(7)[:21]
	for i := range 16 {
		for k := range i {
			l := slices.Clone(every[:16])
			l[i] = l[k]
			wantBoth(t, 7, l, map[int]api.Errno{i: api.ErrTwice})
		}
	}
	wantBoth(t, 2, pairs{{1, 0}, {1, 0}, {1, 0}}, map[int]api.Errno{1: api.ErrTwice, 2: api.ErrTwice})
	// The lists are not compared with each other.
	wantFaults(t, 2, pairs{{0, 1}}, pairs{{0, 1}, {1, 0}})
}

// P12.1: pairs of Apart are equal if their numbers are exchanged, those of Before are not.
func TestCheckComparesExchangedPairs(t *testing.T) {
	for _, p := range allPairs(12) {
		exchanged := [2]int{p[1], p[0]}
		l := pairs{p, exchanged, p, exchanged}
		wantFaults(t, 12, l[:2], nil, at(api.ErrTwice, "apart 1"))
		wantFaults(t, 12, nil, l[:2])
		wantFaults(t, 12, l, l, at(api.ErrTwice, "apart 1"), at(api.ErrTwice, "apart 2"), at(api.ErrTwice, "apart 3"), at(api.ErrTwice, "before 2"), at(api.ErrTwice, "before 3"))
	}
	wantFaults(t, 12, pairs{{0, 1}, {1, 11}, {1, 10}, {11, 1}}, nil, at(api.ErrTwice, "apart 3"))
}

// P12.1: a wrong pair has one fault only.
func TestCheckDoesNotCompareWrongPairs(t *testing.T) {
	for _, p := range (pairs{{-1, 0}, {0, 3}, {3, 0}, {2, 2}, {5, 5}, {-1, -2}}) {
		wantBoth(t, 3, pairs{p, p, {p[1], p[0]}, p}, map[int]api.Errno{0: api.ErrArg, 1: api.ErrArg, 2: api.ErrArg, 3: api.ErrArg})
	}
}

// P12.1, R3: all faults, those of Apart first.
func TestCheckReturnsFaultsInOrder(t *testing.T) {
	wantFaults(t, 3, pairs{{0, 1}, {1, 0}}, pairs{{0, 3}, {2, 2}, {0, 2}, {0, 2}},
		at(api.ErrTwice, "apart 1"), at(api.ErrArg, "before 0"), at(api.ErrArg, "before 1"), at(api.ErrTwice, "before 3"))
	many := slices.Concat(slices.Repeat(pairs{{1, 0}}, 2), slices.Repeat(pairs{{0, 0}}, 15))
	errs := map[int]api.Errno{1: api.ErrTwice}
	for i := 2; i < 17; i++ {
		errs[i] = api.ErrArg
	}
	wantBoth(t, 2, many, errs)
}

// P12.1: a model of the rules, over drawn lists of right and wrong pairs.
func TestCheckOfDrawnPairs(t *testing.T) {
	r := rand.New(rand.NewSource(122))
	for range 3000 {
		orders := r.Intn(6) - 1
		apart, before := anyPairs(r, orders), anyPairs(r, orders)
		want := slices.Concat(modelFaults("apart", orders, apart), modelFaults("before", orders, before))
		wantFaults(t, orders, apart, before, want...)
	}
}

// anyPairs returns up to 20 pairs, some of which have numbers that are not those of orders.
func anyPairs(r *rand.Rand, orders int) pairs {
	l := make(pairs, r.Intn(21))
	for i := range l {
		l[i] = [2]int{r.Intn(orders+3) - 1, r.Intn(orders+3) - 1}
	}
	return l
}

// modelFaults compares each pair with all earlier ones.
func modelFaults(name string, orders int, l pairs) []api.Fault {
	errs := map[int]api.Errno{}
	for i, p := range l {
		for _, earlier := range l[:i] {
			if p == earlier || name == "apart" && p[0] == earlier[1] && p[1] == earlier[0] {
				errs[i] = api.ErrTwice
			}
		}
		if p[0] < 0 || p[1] < 0 || p[0] >= orders || p[1] >= orders || p[0] == p[1] {
			errs[i] = api.ErrArg
		}
	}
	return faultsAt(name, l, errs)
}
