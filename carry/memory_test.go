package carry_test

import (
	"math"
	"math/rand"
	"reflect"
	"slices"
	"testing"

	"lorry/api"
	"lorry/carry"
)

// arguments are those of all functions. Whole has the instance whose lists are longer by what lies behind them.
type arguments struct {
	X, Whole api.Instance
	R        api.Route
}

// drawnArguments returns the same arguments each time for one seed; every other one can be wrong.
func drawnArguments(seed int64) arguments {
	r := rand.New(rand.NewSource(seed))
	a := arguments{Whole: drawn(r, 1+r.Intn(api.MaxOrders))}
	a.R = drawnRoute(r, a.Whole)
	if seed%2 == 1 {
		makeWrong(r, &a.Whole)
		a.R.Visits = damage(r, a.Whole, a.R.Visits)
	}
	a.X = a.Whole
	a.X.Orders, a.X.Types = slices.Clone(a.Whole.Orders), slices.Clone(a.Whole.Types)
	for i := range a.X.Orders {
		a.Whole.Orders[i].Load = append(a.X.Orders[i].Load, 71)
		a.X.Orders[i].Load = a.Whole.Orders[i].Load[:len(a.X.Orders[i].Load)]
	}
	for i := range a.X.Types {
		a.Whole.Types[i].Cap = append(a.X.Types[i].Cap, 72)
		a.X.Types[i].Cap = a.Whole.Types[i].Cap[:len(a.X.Types[i].Cap)]
	}
	return a
}

// makeWrong adds loads, capacities and orders that a valid instance does not have.
func makeWrong(r *rand.Rand, x *api.Instance) {
	for range oneOf(r, 0, 0, r.Intn(80)) {
		x.Orders = append(x.Orders, x.Orders[r.Intn(len(x.Orders))])
	}
	for range oneOf(r, 0, 1, 30) {
		o := &x.Orders[r.Intn(len(x.Orders))]
		o.Pick.Place, o.Drop.Place = oneOf(r, anyInts()...), oneOf(r, anyInts()...)
	}
	wrong := func() []int {
		l := make([]int, r.Intn(6))
		for i := range l {
			l[i] = oneOf(r, anyInts()...)
		}
		return l
	}
	for range oneOf(r, 0, 1, 30) {
		x.Orders[r.Intn(len(x.Orders))].Load = wrong()
		x.Types[r.Intn(len(x.Types))].Cap = wrong()
	}
	x.Types = x.Types[:oneOf(r, len(x.Types), len(x.Types), 0)]
}

// R4: neither the lists are modified nor what lies behind them.
func TestArgumentsAreNotModified(t *testing.T) {
	for seed := range int64(2000) {
		a := drawnArguments(seed)
		answersOf(a.X, a.R)
		if want := drawnArguments(seed); !reflect.DeepEqual(a, want) {
			t.Errorf("%+v became %+v", want, a)
		}
	}
}

// R4, R6: results are new, and the same ones each time.
func TestResultsAreNew(t *testing.T) {
	for seed := range int64(2000) {
		a := drawnArguments(seed)
		first, kept := answersOf(a.X, a.R), answersOf(a.X, a.R)
		if !reflect.DeepEqual(first, kept) {
			t.Fatalf("%+v: %v, then %v", a, first, kept)
		}
		for _, l := range append(first.Loads, first.Most, first.Room) {
			overwrite(l)
		}
		overwrite(first.Loads)
		if want := drawnArguments(seed); !reflect.DeepEqual(a, want) {
			t.Fatalf("%+v became %+v", want, a)
		}
		if again := answersOf(a.X, a.R); !reflect.DeepEqual(again, kept) {
			t.Fatalf("%+v: %v, then %v", a, kept, again)
		}
		overwriteArguments(a)
		if want := drawnArguments(seed); !reflect.DeepEqual(kept, answersOf(want.X, want.R)) {
			t.Fatalf("%+v: the result became %v", want, kept)
		}
	}
}

func overwrite[T any](l []T) { clear(l[:cap(l)]) }

func overwriteArguments(a arguments) {
	for _, o := range a.X.Orders {
		overwrite(o.Load)
	}
	for _, one := range a.X.Types {
		overwrite(one.Cap)
	}
	overwrite(a.R.Visits)
}

// R4: no two loads of a result share memory, nor what lies behind them, also where they are equal.
func TestLoadsAreApart(t *testing.T) {
	x := town("9 9 9", "b 0 0 0", "p 0 0 0", "d 5 0 0", "b 1 2 3")
	r := route(0, "aAbdCD")
	want, _ := carry.Loads(x, r)
	for i := range want {
		l, err := carry.Loads(x, r)
		if err != api.OK {
			t.Fatal(err)
		}
		for d := range l[i][:cap(l[i])] {
			l[i][:cap(l[i])][d] = 77
		}
		l[i] = append(l[i], 78, 79)
		for k := range l {
			if k != i && !slices.Equal(l[k], want[k]) {
				t.Errorf("%v became %v", want[k], l[k])
			}
		}
	}
}

// R4: nil and empty lists are equivalent.
func TestEmptyLists(t *testing.T) {
	x := town("9", "b 3", "p 2")
	y := x
	y.Apart, y.Before = [][2]int{}, [][2]int{}
	for _, s := range []string{"aA", "abA", "b", "Aa"} {
		r := route(0, s)
		want := answersOf(x, r)
		r.Rests = nil
		if got := answersOf(y, r); !reflect.DeepEqual(got, want) {
			t.Errorf("%s: %v; want %v", s, got, want)
		}
	}
	for _, l := range [][]api.Visit{nil, {}} {
		wantRefused(t, x, api.Route{Visits: l}, api.ErrArg)
		wantFitsType(t, x, api.Route{Visits: l}, api.ErrArg)
	}
}

// R1, R5: whatever the arguments are.
func TestAllCallsEnd(t *testing.T) {
	for seed := range int64(4000) {
		a := drawnArguments(2*seed + 1)
		for _, number := range anyInts() {
			a.R.Type = number
			answersOf(a.X, a.R)
		}
		for _, number := range anyInts() {
			answersOf(a.X, api.Route{Visits: []api.Visit{{Order: number}, {Order: number, Drop: true}}})
		}
	}
	answersOf(api.Instance{}, api.Route{})
	answersOf(api.Instance{}, route(0, "aA"))
	answersOf(api.Instance{Orders: town("9", "b 3").Orders}, route(0, "aA"))
	answersOf(api.Instance{Types: make([]api.Type, 1), Orders: make([]api.Order, 1)}, route(0, "aA"))
}

// R1: loads and capacities of any numbers, and of any length.
func TestAllLoadsEnd(t *testing.T) {
	lists := [][]int{nil, {}, {0}, {math.MaxInt}, {math.MinInt}, {-1, 1}, {1, 2, 3}, {math.MinInt, math.MaxInt, 0}, {1, 2, 3, 4}, make([]int, 1000)}
	x := town("9, 9", "b 3", "p 2", "d 4", "b 1")
	for _, capacity := range lists {
		for _, other := range lists {
			for _, one := range lists {
				x.Types[0].Cap, x.Types[1].Cap = capacity, other
				x.Orders[0].Load, x.Orders[2].Load = one, other
				for _, s := range []string{"aA", "CaAb", "adDA", "bC"} {
					answersOf(x, route(0, s))
					answersOf(x, route(1, s))
				}
			}
		}
	}
}

// R1: long lists, too.
func TestLongListsEnd(t *testing.T) {
	const long = 300000
	x := town("9", "b 1")
	r := api.Route{Visits: slices.Repeat(visits("aA"), long)}
	wantRefused(t, x, r, api.ErrTwice)
	x.Orders = slices.Repeat(x.Orders, long)
	for i := range r.Visits {
		r.Visits[i].Order = i / 2
	}
	answersOf(x, r)
	x.Types = slices.Repeat(x.Types, long)
	r.Type = long - 1
	answersOf(x, r)
}
