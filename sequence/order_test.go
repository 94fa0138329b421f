package sequence_test

import (
	"math"
	"math/rand"
	"slices"
	"testing"

	"lorry/api"
	"lorry/sequence"
)

// wantAscending checks that each of the sequences comes before all later ones, and is the same as itself alone.
func wantAscending(t *testing.T, l [][]api.Visit) {
	t.Helper()
	for i, a := range l {
		for k, b := range l {
			b = slices.Clone(b)
			if got := sequence.Less(a, b); got != (i < k) {
				t.Errorf("Less of %s and %s = %t", show(a), show(b), got)
			}
			if got := sequence.Same(a, b); got != (i == k) {
				t.Errorf("Same of %s and %s = %t", show(a), show(b), got)
			}
		}
	}
}

// P16.3: the order of visits decides at the first difference, and then the length.
func TestOrderOfSequences(t *testing.T) {
	for _, texts := range [][]string{
		{"aA", "ab"},
		{"a", "A", "b", "B", "c", "j", "J"},
		{"", "a", "aA", "aAa", "aAb", "ab", "abA", "abB", "abc", "A", "Aa", "Ab", "b", "ba"},
		{"aAbB", "abAB", "abBA", "baAB", "baBA", "bBaA"},
		{"abcdefghijABCDEFGHI", "abcdefghijABCDEFGHIj", "abcdefghijABCDEFGHIJ", "abcdefghijABCDEFGHIJa"},
	} {
		var l [][]api.Visit
		for _, s := range texts {
			l = append(l, visits(s))
		}
		wantAscending(t, l)
	}
}

// P16.3
func TestNilAndEmptySequencesAreTheSame(t *testing.T) {
	lists := [][]api.Visit{nil, {}, make([]api.Visit, 0, 5), visits("aA")[:0]}
	for _, a := range lists {
		for _, b := range lists {
			if sequence.Less(a, b) || !sequence.Same(a, b) {
				t.Errorf("Less of %#v and %#v = %t, Same = %t", a, b, sequence.Less(a, b), sequence.Same(a, b))
			}
		}
		wantAscending(t, [][]api.Visit{a, visits("a")})
		wantAscending(t, [][]api.Visit{a, {{Order: math.MinInt}}})
	}
}

// P16.3: visits that differ in one field alone, at each place; what comes behind it plays no part.
func TestOneDifferenceDecides(t *testing.T) {
	long := visits("aAbBcCdDeEfFgGhHiIjJ")
	for at := range long {
		lesser, greater := slices.Clone(long), slices.Clone(long)
		lesser[at].Drop, greater[at].Drop = false, true
		wantAscending(t, [][]api.Visit{lesser, greater})
		wantAscending(t, [][]api.Visit{lesser, greater[:at+1]})
		wantAscending(t, [][]api.Visit{lesser[:at+1], greater})
		lesser, greater = slices.Clone(long), slices.Clone(long)
		lesser[at].Order, greater[at].Order = 4, 5
		wantAscending(t, [][]api.Visit{lesser, greater})
		wantAscending(t, [][]api.Visit{append(lesser[:at+1], visits("jJ")...), append(greater[:at+1], visits("aA")...)})
	}
}

// P16.3: any numbers, also those whose difference does not fit into an int.
func TestOrderOfAnyNumbers(t *testing.T) {
	var singles, longer [][]api.Visit
	for _, number := range anyInts() {
		for _, drop := range []bool{false, true} {
			v := api.Visit{Order: number, Drop: drop}
			singles = append(singles, []api.Visit{v})
			longer = append(longer, []api.Visit{{Order: -5}, v, {Order: -number, Drop: !drop}})
		}
	}
	wantAscending(t, singles)
	wantAscending(t, longer)
}

// P16.3: all lists of up to 3 of 4 visits.
func TestOrderOfEachList(t *testing.T) {
	var l [][]api.Visit
	// The letters are ascending, so that the lists are, too.
	eachList("aAbB", 3, func(one []api.Visit) { l = append(l, slices.Clone(one)) })
	if len(l) != 1+4+16+64 {
		t.Errorf("%d lists", len(l))
	}
	wantAscending(t, l)
}

// P16.3: of a and b, exactly one holds; and what comes before b comes before all that b comes before.
func TestLessIsAnOrder(t *testing.T) {
	r := rand.New(rand.NewSource(1606))
	one := func() []api.Visit {
		l := make([]api.Visit, r.Intn(4))
		for i := range l {
			l[i] = api.Visit{Order: oneOf(r, 0, 1, -1, math.MaxInt, math.MinInt), Drop: r.Intn(2) == 0}
		}
		return l
	}
	same := 0
	for range 100000 {
		a, b, c := one(), one(), one()
		holds := 0
		for _, h := range []bool{sequence.Less(a, b), sequence.Less(b, a), sequence.Same(a, b)} {
			if h {
				holds++
			}
		}
		if holds != 1 || sequence.Less(a, b) != lessOf(a, b) || sequence.Same(a, b) != sequence.Same(b, a) {
			t.Errorf("%d of three hold for %v and %v", holds, a, b)
		}
		if sequence.Less(a, b) && sequence.Less(b, c) && !sequence.Less(a, c) {
			t.Errorf("%v, %v and %v are not in order", a, b, c)
		}
		if sequence.Same(a, b) {
			same++
		}
	}
	if same < 1000 {
		t.Errorf("only %d were the same", same)
	}
}

func wantOrders(t *testing.T, want int, orders ...int) {
	t.Helper()
	for _, drop := range []bool{false, true} {
		var l []api.Visit
		for i, number := range orders {
			l = append(l, api.Visit{Order: number, Drop: drop == (i%2 == 0)})
		}
		if got, err := sequence.Orders(route(l)); got != want || err != api.OK {
			t.Errorf("Orders of %v = %b, %d; want %b", l, got, err, want)
		}
	}
}

// P16.3: the set of the orders of any visits.
func TestOrdersOfARoute(t *testing.T) {
	wantOrders(t, 0)
	wantOrders(t, 5, 0, 2, 0)
	wantOrders(t, 1, 0)
	wantOrders(t, 1, 0, 0, 0, 0)
	wantOrders(t, 1<<62, 62)
	wantOrders(t, 1<<62, 62, 62)
	wantOrders(t, 1<<62+1, 62, 0, 62)
	wantOrders(t, 1023, 9, 8, 7, 6, 5, 4, 3, 2, 1, 0, 9, 0)
	var every []int
	for number := range 63 {
		wantOrders(t, 1<<number, number)
		every = append(every, number)
	}
	wantOrders(t, math.MaxInt, every...)
	if set, err := sequence.Orders(api.Route{Visits: []api.Visit{}}); set != 0 || err != api.OK {
		t.Errorf("Orders of no visits = %b, %d", set, err)
	}
}

// P16.3: wherever the wrong number is.
func TestOrdersOfWrongNumbers(t *testing.T) {
	right := visits("aAbBcC")
	for _, number := range anyInts() {
		if 0 <= number && number <= 62 {
			continue
		}
		for at := range len(right) + 1 {
			for _, drop := range []bool{false, true} {
				l := slices.Insert(slices.Clone(right), at, api.Visit{Order: number, Drop: drop})
				if set, err := sequence.Orders(route(l)); set != 0 || err != api.ErrArg {
					t.Errorf("Orders of %v = %b, %d; want the error %d", l, set, err, api.ErrArg)
				}
			}
		}
	}
}
