package price_test

import (
	"math/rand"
	"reflect"
	"slices"
	"testing"

	"lorry/api"
	"lorry/internal/sample"
	"lorry/price"
)

// arguments are those of all functions. Their lists are shorter than the memory behind them.
type arguments struct {
	X      api.Instance
	R      api.Route
	S      api.Sheet
	Order  int
	A, B   api.Score
	Price  int
	Memory sample.Memory
	Times  []api.Time
}

// drawnArguments returns the same arguments each time for one seed; every other one can be wrong.
func drawnArguments(seed int64) arguments {
	r := rand.New(rand.NewSource(seed))
	var a arguments
	a.X, a.R, a.S = drawnTrip(r)
	a.Order, a.A, a.B, a.Price = r.Intn(len(a.X.Orders)), drawnScore(r), drawnScore(r), r.Intn(1<<54)
	if seed%2 == 1 {
		spoil(r, &a)
	}
	a.Memory = sample.Lengthen(&a.X, &a.R)
	a.S.Times, a.Times = sample.Longer(a.S.Times, api.Time{Arrive: 77})
	return a
}

func spoil(r *rand.Rand, a *arguments) {
	sample.Spoil(r, &a.X, &a.R)
	l := []*int{&a.S.End, &a.S.Miles, &a.Order}
	for i := range a.X.Types {
		v := &a.X.Types[i]
		l = append(l, &v.Open, &v.Fixed, &v.PerMile, &v.PerTick)
	}
	for i := range a.X.Orders {
		o := &a.X.Orders[i]
		l = append(l, &o.Penalty, &o.Now, &o.Last)
	}
	for i := range a.R.Visits {
		l = append(l, &a.R.Visits[i].Order)
	}
	for _, n := range l {
		if r.Intn(4) == 0 {
			*n = sample.OneOf(r, sample.Ints()...)
		}
	}
	a.A, a.B, a.Price = anyScore(r), anyScore(r), sample.OneOf(r, sample.Ints()...)
}

// results are those of all functions; they share no memory with anything.
type results struct {
	Route, Unserved, Sum, Split api.Score
	Compare, Weight             int
	Errors                      [3]api.Errno
}

func resultsOf(a arguments) results {
	var l results
	l.Route = price.Route(a.X, a.R, a.S)
	l.Unserved, l.Errors[0] = price.Unserved(a.X, a.Order)
	l.Sum, l.Compare = price.Add(a.A, a.B), price.Compare(a.A, a.B)
	l.Weight, l.Errors[1] = price.Weight(a.A)
	l.Split, l.Errors[2] = price.Split(a.Price)
	return l
}

// R1, R2, R4, R6: neither the lists are modified nor what lies behind them, wrong arguments end, and the same arguments have the same results.
func TestArgumentsAreNotModified(t *testing.T) {
	done := [3]int{}
	for seed := range int64(4000) {
		a := drawnArguments(seed)
		got := resultsOf(a)
		if want := drawnArguments(seed); !reflect.DeepEqual(a, want) {
			t.Errorf("%s became %s", brief(want), brief(a))
		}
		if again := resultsOf(a); again != got {
			t.Errorf("%s: %+v, then %+v", brief(a), got, again)
		}
		for i, zero := range []bool{got.Unserved == api.Score{}, got.Weight == 0, got.Split == api.Score{}} {
			if got.Errors[i] != api.OK && !zero {
				t.Errorf("%s: %+v", brief(a), got)
			}
			if got.Errors[i] != api.OK {
				done[i]++
			}
		}
		a.Memory.Clear()
		clear(a.Times)
		if again := resultsOf(drawnArguments(seed)); again != got {
			t.Errorf("the results became %+v; they were %+v", again, got)
		}
	}
	if slices.Min(done[:]) < 500 {
		t.Errorf("the functions return errors %v times", done)
	}
}

// R4: nil and empty lists are equivalent.
func TestEmptyLists(t *testing.T) {
	x := rated(7, 5, 3, 20)
	for _, visits := range [][]api.Visit{nil, {}} {
		for _, times := range [][]api.Time{nil, {}} {
			for _, orders := range [][]api.Order{nil, {}} {
				x.Orders = orders
				wantRoute(t, x, api.Route{Type: 1, Rests: []bool{}, Visits: visits}, api.Sheet{Times: times, End: 100, Miles: 2}, score(7+10+240, 0, 0, 1))
				wantUnserved(t, x, 0, api.Score{}, api.ErrArg)
			}
		}
	}
	wantRoute(t, api.Instance{}, api.Route{}, api.Sheet{}, api.Score{})
	wantRoute(t, api.Instance{Types: []api.Type{}, Orders: []api.Order{}}, api.Route{}, api.Sheet{End: 64}, api.Score{})
	wantUnserved(t, api.Instance{}, 0, api.Score{}, api.ErrArg)
}

// R1: any numbers at any place.
func TestAllCallsEnd(t *testing.T) {
	for _, n := range sample.Ints() {
		for _, k := range sample.Ints() {
			x := town([2]int{n, k}, [2]int{k, n})
			for i := range x.Types {
				v := &x.Types[i]
				v.Open, v.Fixed, v.PerMile, v.PerTick = n, k, n, k
			}
			for i := range x.Orders {
				x.Orders[i].Penalty, x.Orders[i].Off = k, i == 1
			}
			a := arguments{X: x, S: api.Sheet{End: k, Miles: n}, Order: n, A: score(n, k, n, k), B: score(k, k, n, n), Price: n}
			for number := -1; number < 4; number++ {
				a.R = api.Route{Type: number, Start: k, Visits: []api.Visit{{Order: n}, {Order: 0}, {Order: k, Drop: true}, {Order: 1}}}
				if first, second := resultsOf(a), resultsOf(a); first != second {
					t.Errorf("%s: %+v, then %+v", brief(a), first, second)
				}
			}
		}
	}
}

// R1: long lists, too.
func TestLongListsEnd(t *testing.T) {
	const long = 300000
	x := town([2]int{0, 1})
	x.Orders = slices.Repeat(x.Orders, long)
	var r api.Route
	for i := range 2 * long {
		r.Visits = append(r.Visits, api.Visit{Order: i / 2, Drop: i%2 == 1})
	}
	wantRoute(t, x, r, api.Sheet{}, score(0, 0, long, 0))
	wantRoute(t, x, sample.Route(2, 0, "aAzZ"), api.Sheet{End: 20}, score(0, 2, 2, 0))
	wantUnserved(t, x, long-1, api.Score{}, api.ErrMissing)
	x.Types = slices.Repeat(x.Types, long)
	r.Type = 3*long - 1
	wantRoute(t, x, r, api.Sheet{End: 20}, score(0, long, long, 0))
	r.Type++
	wantRoute(t, x, r, api.Sheet{End: 20}, api.Score{})
}
