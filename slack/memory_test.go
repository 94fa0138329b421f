package slack_test

import (
	"math"
	"math/rand"
	"reflect"
	"slices"
	"testing"

	"lorry/api"
	"lorry/drive"
	"lorry/internal/sample"
	"lorry/slack"
)

// arguments are those of all functions. Their lists are shorter than the memory behind them.
type arguments struct {
	X        api.Instance
	R        api.Route
	S        api.Sheet
	At, Late int
	Memory   sample.Memory
	Times    []api.Time
}

// drawnArguments returns the same arguments each time for one seed; every other one can be wrong.
func drawnArguments(seed int64) arguments {
	r := rand.New(rand.NewSource(seed))
	one := drawnTrip(r, 6)
	a := arguments{X: one.x, R: one.r, S: one.s, At: r.Intn(len(one.r.Visits) + 1), Late: r.Intn(sample.OneOf(r, 1, 5, 50))}
	if seed%2 == 1 {
		sample.Spoil(r, &a.X, &a.R)
		if s, err := drive.Best(a.X, a.R); err == api.OK {
			a.S = s
		}
		if r.Intn(3) == 0 {
			a.R = sample.Damage(r, a.X, a.R)
		}
		for _, n := range []*int{&a.At, &a.Late, &a.S.End} {
			*n = sample.OneOf(r, append(sample.Ints(), slices.Repeat([]int{*n}, 100)...)...)
		}
	}
	a.Memory = sample.Lengthen(&a.X, &a.R)
	a.S.Times, a.Times = sample.Longer(a.S.Times, api.Time{Arrive: 77})
	return a
}

// results are those of all functions.
type results struct {
	Slack, Latest []int
	After         api.Sheet
	Errors        [3]api.Errno
}

func resultsOf(a arguments) results {
	var l results
	l.Slack, l.Errors[0] = slack.Slack(a.X, a.R, a.S)
	l.Latest, l.Errors[1] = slack.Latest(a.X, a.R, a.S)
	l.After, l.Errors[2] = slack.After(a.X, a.R, a.S, a.At, a.Late)
	return l
}

// copied returns results in memory of their own.
func (l results) copied() results {
	l.Slack, l.Latest = slices.Concat([]int{}, l.Slack), slices.Concat([]int{}, l.Latest)
	l.After.Times = slices.Concat([]api.Time{}, l.After.Times)
	return l
}

// R1, R4, R5: neither the lists are modified nor what lies behind them, and wrong arguments end.
func TestArgumentsAreNotModified(t *testing.T) {
	done := [2]int{}
	for seed := range int64(6000) {
		a := drawnArguments(seed)
		got := resultsOf(a)
		if want := drawnArguments(seed); !reflect.DeepEqual(a, want) {
			t.Errorf("%+v became %+v", want, a)
		}
		for i, zero := range []bool{len(got.Slack) == 0, len(got.Latest) == 0, isZero(got.After)} {
			if got.Errors[i] != api.OK && !zero {
				t.Errorf("%+v: %+v", a, got)
			}
		}
		if got.Errors[0] == api.OK {
			done[seed%2]++
		}
	}
	if done[0] < 500 || done[1] < 100 {
		t.Errorf("the functions return slacks %v times", done)
	}
}

// R4, R6: results are new, and the same ones each time.
func TestResultsAreNew(t *testing.T) {
	for seed := range int64(2000) {
		a := drawnArguments(2 * seed)
		first := resultsOf(a)
		kept := first.copied()
		for range 2 {
			l := resultsOf(a)
			if got := l.copied(); !reflect.DeepEqual(got, kept) {
				t.Fatalf("%+v: %+v, then %+v", a, kept, got)
			}
			clear(l.Slack[:cap(l.Slack)])
			clear(l.Latest[:cap(l.Latest)])
			clear(l.After.Times[:cap(l.After.Times)])
		}
		a.Memory.Clear()
		clear(a.Times)
		if got := first.copied(); !reflect.DeepEqual(got, kept) {
			t.Fatalf("the results became %+v; they were %+v", got, kept)
		}
	}
}

// R4: nil and empty lists are equivalent.
func TestEmptyLists(t *testing.T) {
	x := sample.Town("0>1 3m 10", "0>1 0-50 30/5", "- 1@0-90+0")
	for _, visits := range [][]api.Visit{nil, {}} {
		for _, fixed := range [][]bool{nil, {}} {
			for _, times := range [][]api.Time{nil, {}} {
				a := trip{x, api.Route{Visits: visits, Rests: fixed}, api.Sheet{Times: times, End: 10, Miles: 3}}
				a.wantSlack(t, 20)
				a.wantAfter(t, 0, 20, "0 30 3m")
				a.wantAfterError(t, 0, 21, api.ErrRest)
			}
		}
	}
	(trip{}).wantErrors(t, api.ErrArg)
}

// R1: any numbers at any place.
func TestAllCallsEnd(t *testing.T) {
	done := 0
	for _, n := range sample.Ints() {
		for _, k := range sample.Ints() {
			x := sample.Town("0>1 10, 1>0 10", "0>0 0-100 15/4", "- 1@0-40+2")
			call := func() {
				r := sample.Route(0, 0, "A")
				s, err := drive.Run(x, r, sample.Rests("-*"))
				if err == api.OK {
					done++
				}
				resultsOf(arguments{X: x, R: r, S: s, At: 0, Late: 3})
				resultsOf(arguments{X: x, R: r, S: s, At: n, Late: k})
			}
			x.Types[0].Open, x.Types[0].Close = n, k
			call()
			x.Types[0].Drive, x.Types[0].Rest = n, k
			call()
			x.Types[0].Open, x.Types[0].Close = 0, math.MaxInt
			call()
			x.Orders[0].Drop = api.Stop{Place: 1, Open: n, Close: k, Service: n}
			call()
			x.Types[0].Drive = math.MaxInt
			x.Net.Arcs[0].Travel, x.Net.Arcs[0].Slow = []api.Point{{T: n, A: k}}, []api.Point{{T: k, A: n}}
			call()
		}
	}
	if done < 100 {
		t.Errorf("there are %d schedules", done)
	}
}

// R1: long lists, and instances in which there is no end, neither of a window nor of a shift.
func TestLongListsEnd(t *testing.T) {
	const long = 300000
	x := sample.Town("0>1 10, 1>0 10", "0>0 0-100 4096/4", "- 1@0-40+2")
	r := api.Route{Visits: slices.Repeat(sample.Visits("A"), long), Rests: make([]bool, long)}
	resultsOf(arguments{X: x, R: r, S: api.Sheet{Times: make([]api.Time, long)}})
	x.Orders[0].Drop.Close, x.Types[0].Close, x.Types[0].Drive = math.MaxInt, math.MaxInt, math.MaxInt
	x.Net.Arcs = slices.Concat(slices.Repeat([]api.Arc{sample.Arc("3>4 1")}, 1000), x.Net.Arcs)
	r = api.Route{Visits: slices.Repeat(sample.Visits("A"), 20)}
	s, err := drive.Best(x, r)
	if got := resultsOf(arguments{X: x, R: r, S: s}); err != api.OK || got.Errors != [3]api.Errno{} {
		t.Errorf("%+v, %d", got, err)
	}
}
