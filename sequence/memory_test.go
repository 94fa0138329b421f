package sequence_test

import (
	"math"
	"math/rand"
	"reflect"
	"slices"
	"testing"

	"lorry/api"
	"lorry/sequence"
)

// arguments are those of all functions. Whole has their lists with one element more, which lies behind them.
type arguments struct {
	X     api.Instance
	Set   int
	L     []api.Visit
	Whole struct {
		X api.Instance
		L []api.Visit
	}
}

// drawnArguments returns the same arguments each time for one seed; half of them can be wrong.
func drawnArguments(seed int64) arguments {
	r := rand.New(rand.NewSource(seed))
	var a arguments
	a.Whole.X = drawn(r, 1+r.Intn(10))
	if seed%2 == 1 {
		makeWrong(r, &a.Whole.X)
	}
	a.Whole.L = append(drawnVisits(r, drawn(r, len(a.Whole.X.Orders))), api.Visit{Order: 7})
	a.X, a.L = a.Whole.X, front(a.Whole.L)
	a.Whole.X.Apart, a.Whole.X.Before = append(a.X.Apart, [2]int{7, 8}), append(a.X.Before, [2]int{8, 9})
	a.X.Orders, a.X.Apart, a.X.Before = front(a.Whole.X.Orders), front(a.Whole.X.Apart), front(a.Whole.X.Before)
	a.Set = oneOf(r, 1<<len(a.X.Orders)-1, r.Intn(1<<min(len(a.X.Orders), 40)), oneOf(r, anyInts()...))
	return a
}

// front returns a list without its last element, which stays behind it.
func front[T any](l []T) []T { return l[:len(l)-1] }

// makeWrong adds orders and pairs that a valid instance does not have.
func makeWrong(r *rand.Rand, x *api.Instance) {
	for range oneOf(r, 0, 0, r.Intn(80)) {
		x.Orders = append(x.Orders, x.Orders[0])
	}
	for range oneOf(r, 0, 1, 30) {
		o := &x.Orders[r.Intn(len(x.Orders))]
		o.Pick.Place, o.Drop.Place = oneOf(r, anyInts()...), oneOf(r, anyInts()...)
	}
	for range oneOf(r, 0, 1, 40) {
		x.Apart = append(x.Apart, [2]int{oneOf(r, anyInts()...), oneOf(r, anyInts()...)})
		x.Before = append(x.Before, [2]int{oneOf(r, anyInts()...), oneOf(r, anyInts()...)})
	}
}

// results calls every function, and returns what they return.
func results(a arguments) []any {
	r := api.Route{Visits: a.L}
	set, err := sequence.Orders(r)
	l, errOfAll := sequence.All(a.X, a.Set)
	return []any{set, err, sequence.Check(a.X, r), l, errOfAll, sequence.Next(a.X, a.Set, a.L), sequence.Less(a.L, a.Whole.L), sequence.Same(a.L, a.Whole.L)}
}

// R4: neither the lists are modified nor what lies behind them.
func TestArgumentsAreNotModified(t *testing.T) {
	for seed := range int64(1000) {
		a := drawnArguments(seed)
		results(a)
		if want := drawnArguments(seed); !reflect.DeepEqual(a, want) {
			t.Errorf("%+v became %+v", want, a)
		}
	}
}

// R4, R6: results are new, and the same ones each time.
func TestResultsAreNew(t *testing.T) {
	for seed := range int64(1000) {
		a := drawnArguments(seed)
		first, kept := results(a), results(a)
		if !reflect.DeepEqual(first, kept) {
			t.Fatalf("%+v: %v, then %v", a, first, kept)
		}
		overwrite(first[5].([]api.Visit))
		for _, one := range first[3].([][]api.Visit) {
			overwrite(one)
		}
		if want := drawnArguments(seed); !reflect.DeepEqual(a, want) {
			t.Fatalf("%+v became %+v", want, a)
		}
		overwrite(a.L)
		overwrite(a.X.Orders)
		if want := results(drawnArguments(seed)); !reflect.DeepEqual(kept, want) {
			t.Fatalf("%v became %v", want, kept)
		}
	}
}

func overwrite[T any](l []T) { clear(l[:cap(l)]) }

// R4: no two sequences of a result share memory, nor what lies behind them.
func TestSequencesAreApart(t *testing.T) {
	for _, x := range []api.Instance{town("bbb"), town("bpd"), before(town("bbpd"), "ab")} {
		set := 1<<len(x.Orders) - 1
		l, want := all(t, x, set), all(t, x, set)
		for i := range l {
			overwrite(l[i])
			for k := i + 1; k < len(l); k++ {
				if !slices.Equal(l[k], want[k]) {
					t.Fatalf("%s: %s became %s", about(x), show(want[k]), show(l[k]))
				}
			}
		}
	}
}

// R4: nil and empty lists are equivalent.
func TestEmptyLists(t *testing.T) {
	for _, x := range []api.Instance{town("bp"), off(town("bp"), "a"), town("")} {
		y := x
		y.Apart, y.Before = [][2]int{}, [][2]int{}
		if len(y.Orders) == 0 {
			y.Orders = []api.Order{}
		}
		for set := range 1 << len(x.Orders) {
			wantSequences(t, y, set, all(t, x, set))
			wantNextOf(t, y, set, []api.Visit{}, sequence.Next(x, set, nil))
			wantVisits(t, y, visits("aAb"), sequence.Check(x, route(visits("aAb"))))
		}
	}
}

// R1, R5: whatever the arguments are.
func TestAllCallsEnd(t *testing.T) {
	for seed := range int64(400) {
		a := drawnArguments(seed)
		for _, number := range anyInts() {
			a.Set = number
			if seed%20 == 1 {
				a.L = append(a.L, api.Visit{Order: number}, api.Visit{Order: number, Drop: true})
			}
			sequence.Check(a.X, api.Route{Visits: a.L})
			sequence.Next(a.X, a.Set, a.L)
			sequence.All(a.X, a.Set)
		}
	}
	sequence.All(api.Instance{}, math.MaxInt)
	sequence.Next(api.Instance{}, -1, visits("aA"))
	sequence.Check(api.Instance{}, api.Route{Visits: visits("aA")})
}

// R1: pairs with any numbers, in instances with any number of orders.
func TestAllPairsEnd(t *testing.T) {
	for _, orders := range []int{0, 1, 3, 62, 63, 64, 130} {
		x := town("bpd")
		for len(x.Orders) < orders {
			x.Orders = append(x.Orders, x.Orders[0])
		}
		x.Orders = x.Orders[:orders]
		for _, a := range anyInts() {
			for _, b := range anyInts() {
				x.Apart, x.Before = nil, [][2]int{{a, b}, {0, 1}}
				results(arguments{X: x, Set: 3, L: visits("aAbC")})
				results(arguments{X: x, Set: 7, L: []api.Visit{{Order: a}, {Order: b, Drop: true}}})
				x.Apart = [][2]int{{b, a}, {a, a}}
				results(arguments{X: x, Set: 1 << 62, L: visits("aA")})
			}
			x.Apart = nil
			results(arguments{X: x, Set: 1<<min(orders, 63) - 1, L: []api.Visit{{Order: a}, {Order: a}}})
		}
	}
}

// R1: orders without any visits.
func TestOrdersWithoutVisitsEnd(t *testing.T) {
	x := api.Instance{Orders: make([]api.Order, 70)}
	for i := range x.Orders {
		x.Orders[i].Pick.Place, x.Orders[i].Drop.Place = -1, -1
	}
	for _, set := range []int{1, 3, 1023, math.MaxInt} {
		results(arguments{X: x, Set: set, L: visits("aAb")})
		x.Before = append(x.Before, [2]int{0, 1}, [2]int{9, 8})
	}
}

// R1: long lists, too.
func TestLongListsEnd(t *testing.T) {
	const long = 300000
	x := town("bpd")
	l := slices.Repeat(visits("aAbC"), long)
	wantVisits(t, x, l, api.ErrTwice)
	wantNextOf(t, x, 7, l, nil)
	if !sequence.Same(l, slices.Clone(l)) || sequence.Less(l, l) || !sequence.Less(l[:len(l)-1], l) {
		t.Errorf("long lists are in no order")
	}
	x.Apart, x.Before = slices.Repeat(pairs("ba"), long), slices.Repeat(pairs("ba", "cb"), long)
	wantVisits(t, x, visits("CbaA"), api.ErrApart)
	wantVisits(t, x, visits("aA"), api.ErrBefore)
	sequence.All(x, 7)
	wantNextOf(t, x, 7, visits("Cb"), visits("a"))
	x = town("b")
	x.Orders = slices.Repeat(x.Orders, long)
	every := make([]api.Visit, 0, 2*long)
	for number := range x.Orders {
		every = append(every, api.Visit{Order: number}, api.Visit{Order: number, Drop: true})
	}
	sequence.Check(x, api.Route{Visits: every})
	sequence.Next(x, math.MaxInt, every)
	sequence.All(x, math.MaxInt)
}
