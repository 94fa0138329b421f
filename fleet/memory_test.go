package fleet_test

import (
	"math/rand"
	"reflect"
	"slices"
	"testing"

	"lorry/api"
	"lorry/fleet"
)

// results calls every function with types and a number, and returns what they return.
func results(n api.Network, l []api.Type, x int) []any {
	r := []any{fleet.Check(n, l), fleet.Dims(l), fleet.Total(l)}
	for i, v := range l {
		r = append(r, fleet.Able(v, x), fleet.Same(v, l[0]), fleet.Same(l[(i+1)%len(l)], v))
	}
	return r
}

// R4: neither the lists are modified nor what lies behind them.
func TestArgumentsAreNotModified(t *testing.T) {
	r := rand.New(rand.NewSource(109))
	for range 300 {
		whole, n := append(changed(r, drawn(r, 3)), allWrong(), van("behind", 5)), places(5)
		l := whole[:len(whole)-2]
		var lists [][]int
		for i := range l {
			longer := append(l[i].Cap, -3, -4)
			lists = append(lists, longer)
			l[i].Cap = longer[:len(longer)-2]
		}
		before, beforeLists := cloned(whole), cloneLists(lists)
		results(api.Network{Places: n.Places[:3]}, l, r.Int())
		if !reflect.DeepEqual(cloned(whole), before) || !slices.EqualFunc(lists, beforeLists, slices.Equal) || !slices.Equal(n.Places, places(5).Places) {
			t.Errorf("%v became %v", before, whole)
		}
	}
}

func cloneLists(lists [][]int) [][]int {
	var l [][]int
	for _, one := range lists {
		l = append(l, slices.Clone(one))
	}
	return l
}

// R4, R6: results are new, and the same ones each time.
func TestResultsAreNew(t *testing.T) {
	l := []api.Type{van("a", 5), van("a", 6, 7), allWrong()}
	want := [][]api.Fault{at(1, api.ErrTwice, api.ErrLoad), at(2, api.ErrName, api.ErrCount, api.ErrPlace, api.ErrLoad, api.ErrSkill, api.ErrClose, api.ErrRest, api.ErrArg)}
	kept := fleet.Check(places(3), l)
	first := fleet.Check(places(3), l)
	clear(first[:cap(first)])
	wantFaults(t, places(3), l, want...)
	clear(l)
	if !slices.Equal(kept, slices.Concat(want...)) {
		t.Errorf("%v became %v", slices.Concat(want...), kept)
	}
}

// R1: whatever the arguments are; R6: the same call has the same results.
func TestAllCallsEnd(t *testing.T) {
	r := rand.New(rand.NewSource(110))
	lists := [][]api.Type{nil, {}, {{}}, {{}, {}, {}}, {allWrong()}, {allWrong(), allWrong()}, vans(300), make([]api.Type, 5000)}
	for _, x := range anyInts() {
		every := with(func(v *api.Type) {
			v.Cap = []int{x, x, x, x, x}
			for _, f := range fields(v) {
				*f = x
			}
		})
		lists = append(lists, []api.Type{every}, []api.Type{van("a", x), every, every})
	}
	for range 300 {
		lists = append(lists, changed(r, drawn(r, 3)))
	}
	for _, l := range lists {
		for _, n := range []api.Network{{}, places(1), places(3), places(1000)} {
			x := anyInts()[r.Intn(len(anyInts()))]
			if first, second := results(n, l, x), results(n, l, x); !reflect.DeepEqual(first, second) {
				t.Errorf("%v: %v, then %v", l, first, second)
			}
		}
	}
}

// R1: large lists, too.
func TestLargeFleetsEnd(t *testing.T) {
	l := vans(200000)
	l[0].Cap = make([]int, 200000)
	faults := fleet.Check(places(1), l)
	if len(faults) != 1+len(l) || fleet.Total(l) != 2*len(l) || fleet.Dims(l) != 200000 || !fleet.Same(l[0], l[0]) {
		t.Errorf("%d faults", len(faults))
	}
	for i := range l {
		l[i].Name, l[i].Cap = "van", nil
	}
	if faults := fleet.Check(places(1), l); len(faults) != 1+len(l)+len(l)-1 {
		t.Errorf("%d faults", len(faults))
	}
}
