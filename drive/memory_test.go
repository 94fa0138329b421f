package drive_test

import (
	"math"
	"math/rand"
	"reflect"
	"slices"
	"testing"

	"lorry/api"
	"lorry/drive"
	"lorry/internal/sample"
)

// arguments are those of all functions. Their lists are shorter than the memory behind them.
type arguments struct {
	X      api.Instance
	R      api.Route
	Given  []bool
	S      api.Sheet
	Memory sample.Memory
	Rests  []bool
	Times  []api.Time
}

// drawnArguments returns the same arguments each time for one seed; every other one can be wrong.
func drawnArguments(seed int64) arguments {
	r := rand.New(rand.NewSource(seed))
	size := sample.OneOf(r, 4, 10, 30)
	a := arguments{X: sample.Draw(r, size, 1+r.Intn(4))}
	a.R = sample.DrawRoute(r, a.X, r.Intn(7), size)
	if r.Intn(2) == 0 {
		sample.Tire(r, &a.X, a.R)
	}
	a.R.Rests = sample.DrawRests(r, r.Intn(len(a.R.Visits)+2))
	a.Given = sample.DrawRests(r, len(a.R.Visits)+1)
	a.S = drawnSheet(r, a.X, a.R, a.Given)
	if seed%2 == 1 {
		a.R = sample.Damage(r, a.X, a.R)
		sample.Spoil(r, &a.X, &a.R)
		for _, n := range []*int{&a.S.Depart, &a.S.End, &a.S.Miles} {
			*n = sample.OneOf(r, append(sample.Ints(), slices.Repeat([]int{*n}, 150)...)...)
		}
	}
	a.Memory = sample.Lengthen(&a.X, &a.R)
	a.Given, a.Rests = sample.Longer(a.Given, true)
	a.S.Times, a.Times = sample.Longer(a.S.Times, api.Time{Arrive: 72})
	return a
}

// resultsOf returns the results of all functions as they are.
func resultsOf(a arguments) ([]api.Sheet, []int, [4]api.Errno) {
	run, e0 := drive.Run(a.X, a.R, a.Given)
	best, e1 := drive.Best(a.X, a.R)
	since, e2 := drive.Since(a.X, a.R, a.S)
	return []api.Sheet{run, best}, since, [4]api.Errno{e0, e1, e2, drive.Valid(a.X, a.R, a.S)}
}

// R1, R4, R5: neither the lists are modified nor what lies behind them, and wrong arguments end.
func TestArgumentsAreNotModified(t *testing.T) {
	for seed := range int64(6000) {
		a := drawnArguments(seed)
		sheets, since, errors := resultsOf(a)
		if want := drawnArguments(seed); !reflect.DeepEqual(a, want) {
			t.Errorf("%+v became %+v", want, a)
		}
		for i, s := range sheets {
			if errors[i] != api.OK && !isZero(s) {
				t.Errorf("%s: %s with the error %d", sample.About(a.X, a.R), sample.Show(s), errors[i])
			}
		}
		if errors[2] != errors[3] || errors[2] != api.OK && len(since) > 0 {
			t.Errorf("%s: %v with the errors %v", sample.About(a.X, a.R), since, errors)
		}
	}
}

// R4, R6: results are new, and the same ones each time.
func TestResultsAreNew(t *testing.T) {
	overwrite := func(a arguments, sheets []api.Sheet, since []int) {
		for _, s := range sheets {
			clear(s.Times[:cap(s.Times)])
		}
		clear(since[:cap(since)])
		a.Memory.Clear()
		clear(a.Rests)
		clear(a.Times)
	}
	for seed := range int64(3000) {
		a := drawnArguments(2 * seed)
		keptSheets, keptSince, errors := resultsOf(a)
		kept := answersOf(a.X, a.R, a.Given, a.S)
		for range 2 {
			sheets, since, _ := resultsOf(a)
			overwrite(arguments{}, sheets, since)
			if got := answersOf(a.X, a.R, a.Given, a.S); !reflect.DeepEqual(got, kept) {
				t.Fatalf("%s: %v, then %v", sample.About(a.X, a.R), kept, got)
			}
		}
		overwrite(a, nil, nil)
		got := answers{Run: sample.Show(keptSheets[0]), Best: sample.Show(keptSheets[1]), Since: slices.Concat(keptSince), Errors: errors}
		if !reflect.DeepEqual(got, kept) {
			t.Fatalf("the results became %v; they were %v", got, kept)
		}
	}
}

// R4: nil and empty lists are equivalent.
func TestEmptyLists(t *testing.T) {
	x := line("0>1 0-200 100/5", "- 1@0-99+4")
	for _, visits := range [][]api.Visit{nil, {}} {
		for _, fixed := range [][]bool{nil, {}} {
			for _, times := range [][]api.Time{nil, {}} {
				r := api.Route{Visits: visits, Rests: fixed}
				wantRun(t, x, r, "-", "0 10 3m")
				wantBest(t, x, r, "", "0 10 3m")
				wantSince(t, x, r, api.Sheet{Times: times, End: 10, Miles: 3}, 10)
				if _, err := drive.Run(x, r, fixed); err != api.ErrArg {
					t.Error(err)
				}
			}
		}
	}
	if _, err := drive.Best(api.Instance{}, api.Route{}); err != api.ErrArg {
		t.Error(err)
	}
	if err := drive.Valid(api.Instance{}, api.Route{}, api.Sheet{}); err != api.ErrArg {
		t.Error(err)
	}
}

// R1: any numbers at any place.
func TestAllCallsEnd(t *testing.T) {
	for _, a := range sample.Ints() {
		for _, b := range sample.Ints() {
			x := sample.Town("0>1 10, 1>0 10", "0>0 0-100 15/4", "- 1@0-40+2")
			s := api.Sheet{Depart: a, Times: []api.Time{{Arrive: b, Begin: a, Depart: b}}, End: a, Miles: b}
			call := func() {
				resultsOf(arguments{X: x, R: api.Route{Visits: sample.Visits("A")}, Given: sample.Rests("-*"), S: s})
			}
			x.Types[0].Open, x.Types[0].Close = a, b
			call()
			x.Types[0].Drive, x.Types[0].Rest = a, b
			call()
			x.Orders[0].Drop = api.Stop{Place: 1, Open: a, Close: b, Service: a}
			call()
			x.Types[0].Open, x.Types[0].Close = 0, math.MaxInt
			call()
			x.Net.Arcs[0].Travel, x.Net.Arcs[0].Slow = []api.Point{{T: a, A: b}}, []api.Point{{T: b, A: a}}
			call()
			x.Net.Arcs[0].Miles, x.Net.Arcs[1].Miles = a, b
			call()
			x.Types[0].From, x.Types[0].To = a, b
			call()
		}
	}
}

// R1: a network in which each list of rests leads to other times, which no valid one can be.
func TestManyStatesEnd(t *testing.T) {
	x := sample.Town("0>1 1, 1>0 1", "0>0 0-1 1/0", "1@0-1+0 0@0-1+0")
	for k := range 60 {
		for i := range x.Net.Arcs {
			x.Net.Arcs[i].Slow = append(x.Net.Arcs[i].Slow, api.Point{T: 1 << k, A: 1 << k})
		}
	}
	for i := range x.Orders {
		x.Orders[i].Pick.Close, x.Orders[i].Drop.Close = math.MaxInt, math.MaxInt
	}
	for _, most := range []int{1, 100, 10000, 1 << 20, math.MaxInt} {
		for _, rest := range []int{1, 5, 1000, 1 << 20} {
			x.Types[0].Close, x.Types[0].Drive, x.Types[0].Rest = math.MaxInt, most, rest
			for _, r := range []api.Route{sample.Route(0, 0, "aAaAaAaAaAaA"), sample.Route(0, 5, "aAaAaAaAaAaAa")} {
				drive.Best(x, r)
			}
		}
	}
}

// R1: long lists, too.
func TestLongListsEnd(t *testing.T) {
	const long = 300000
	x := line("0>1 0-200 100/5", "- 1@0-99+4")
	r := api.Route{Visits: slices.Repeat(sample.Visits("A"), long), Rests: make([]bool, long)}
	s := api.Sheet{Times: make([]api.Time, long)}
	a := arguments{X: x, R: r, Given: make([]bool, long+1), S: s}
	resultsOf(a)
	a.R.Visits = r.Visits[:20]
	resultsOf(a)
	a.R.Rests = nil
	resultsOf(a)
	a.X.Orders, a.X.Types = slices.Repeat(x.Orders, long), slices.Repeat(x.Types, long)
	a.X.Net.Arcs = slices.Concat(slices.Repeat([]api.Arc{sample.Arc("3>4 1")}, long), x.Net.Arcs)
	a.R.Type, a.R.Visits[7].Order = long-1, long-1
	if got, err := drive.Best(a.X, a.R); err != api.OK || got.Miles != 3 {
		t.Error(sample.Show(got), err)
	}
}
