package split_test

import (
	"fmt"
	"math"
	"math/rand"
	"reflect"
	"slices"
	"strings"
	"testing"

	"lorry/api"
	"lorry/split"
)

// arguments are those of all functions.
type arguments struct {
	Load     []int
	X        api.Instance
	Origin   []int
	P        api.Plan
	L        []shares
	Unserved []int
}

// drawnArguments returns arguments that go together.
func drawnArguments(r *rand.Rand, x api.Instance) arguments {
	y, origin, _ := split.Expand(x)
	a := arguments{Load: drawnLoad(r, r.Intn(5)), X: x, Origin: origin, P: drawnPlan(r, len(y.Orders)), L: drawnShares(r, drawn(r))}
	if l, err := split.Merge(x, origin, a.P); err == api.OK && r.Intn(2) == 0 {
		a.L = l
	}
	a.P.Unserved = []int{0, 1, 5}
	for i := range x.Orders {
		a.Unserved = append(a.Unserved, i)
	}
	return a
}

// results calls every function, and returns what they return.
func results(a arguments, parts int) []any {
	l, err := split.Loads(a.Load, parts)
	y, origin, errOfExpand := split.Expand(a.X)
	merged, errOfMerge := split.Merge(a.X, a.Origin, a.P)
	mergedToo, errToo := split.Merge(a.X, origin, a.P)
	return []any{l, err, y, origin, errOfExpand, merged, errOfMerge, mergedToo, errToo, split.Whole(a.X, a.L, a.Unserved), split.Whole(a.X, merged, nil)}
}

// R4: neither the lists are modified nor what lies behind them.
func TestArgumentsAreNotModified(t *testing.T) {
	r := rand.New(rand.NewSource(1508))
	for i := range 2000 {
		a := drawnArguments(r, drawn(r))
		if i%2 == 0 {
			a = changed(r, a)
		}
		a = roomy(a)
		before := snapshot(a)
		results(a, 1+r.Intn(4))
		if !reflect.DeepEqual(snapshot(a), before) {
			t.Errorf("%+v became %+v", before, snapshot(a))
		}
	}
}

// R4: what is done to a result does not reach the arguments, and what is done to the arguments does not reach a result.
func TestResultsAreNew(t *testing.T) {
	r := rand.New(rand.NewSource(1509))
	for range 500 {
		a := roomy(drawnArguments(r, drawnExpandable(r)))
		parts := 1 + r.Intn(4)
		before := snapshot(a)
		first := results(a, parts)
		want := fmt.Sprintf("%+v", first)
		for _, one := range first {
			overwrite(one)
		}
		if !reflect.DeepEqual(snapshot(a), before) {
			t.Fatalf("%+v became %+v", before, snapshot(a))
		}
		second := results(a, parts)
		overwrite(a)
		if got := fmt.Sprintf("%+v", second); got != want {
			t.Fatalf("%s became %s", want, got)
		}
	}
}

// R4: no two lists of a result share memory, even if those of the arguments do.
func TestListsOfResultsAreApart(t *testing.T) {
	load, points, same := []int{7, 2}, []api.Point{{T: 3, A: 4}}, pairs{{0, 1}, {2, 3}}
	x := town(2, 2, 1, 1)
	x.Apart, x.Before, x.Types[0].Cap, x.Types[1].Cap = same, same, load, load
	for i := range x.Net.Arcs {
		x.Net.Arcs[i].Travel, x.Net.Arcs[i].Slow = points, points
	}
	for i := range x.Orders {
		x.Orders[i].Load = load
	}
	y, origin := expanded(t, x)
	l, _ := split.Loads(load, 4)
	route := visits(0, 2, 3, 4)
	m, err := split.Merge(x, origin, planOf(route, route, visits(5, 4)))
	if err != api.OK {
		t.Errorf("error %d", err)
	}
	for _, result := range []any{&y, &l, &m} {
		wantListsApart(t, reflect.ValueOf(result).Elem())
	}
}

// wantListsApart increases each number of a value by 1; one that two lists share is increased twice.
func wantListsApart(t *testing.T, v reflect.Value) {
	t.Helper()
	all := numbersOf(v)
	before := make([]int64, len(all))
	for i, number := range all {
		before[i] = number.Int()
	}
	for _, number := range all {
		number.SetInt(number.Int() + 1)
	}
	for i, number := range all {
		if number.Int() != before[i]+1 {
			t.Fatalf("a number of %+v was increased by %d", v, number.Int()-before[i])
		}
	}
	if len(all) == 0 {
		t.Errorf("%+v has no numbers", v)
	}
}

// R4: nil and empty lists are equivalent.
func TestEmptyLists(t *testing.T) {
	r := rand.New(rand.NewSource(1510))
	for range 500 {
		x := drawnExpandable(r)
		want, origin, _ := modelExpand(x)
		wantExpanded(t, cloned(x), want, origin)
		wantExpanded(t, roomy(x), want, origin)
	}
	x := api.Instance{Net: api.Network{Places: []string{"hub"}}, Types: []api.Type{{Name: "v", Cap: []int{1}, Drive: 1}}}
	wantUnchanged(t, x)
	x.Orders, x.Apart, x.Before, x.Net.Arcs = []api.Order{}, pairs{}, pairs{}, []api.Arc{}
	wantUnchanged(t, x)
	for _, origin := range [][]int{nil, {}} {
		for _, p := range []api.Plan{{}, {Routes: []api.Route{}}, {Unserved: []int{}}} {
			if l, err := split.Merge(x, origin, p); err != api.OK || len(l) != 0 {
				t.Errorf("Merge of %v and %v = %v, %d", origin, p, l, err)
			}
		}
	}
	wantWhole(t, x, []shares{}, []int{}, api.OK)
}

// R1, R6: whatever the arguments are, and the same ones again.
func TestAllCallsEnd(t *testing.T) {
	r := rand.New(rand.NewSource(1511))
	for _, x := range strange(r) {
		for range 3 {
			a := drawnArguments(r, x)
			if r.Intn(2) == 0 {
				a = changed(r, a)
			}
			a.Origin = oneOf(r, a.Origin, nil, anyInts(), []int{0, 1, 2})
			a.Unserved = oneOf(r, a.Unserved, nil, anyInts(), []int{0})
			parts := oneOf(r, anyInts()...)
			if first, second := results(a, parts), results(a, parts); !reflect.DeepEqual(first, second) {
				t.Errorf("%+v: %v, then %v", a, first, second)
			}
		}
	}
}

// R1: orders that Check refuses, with each number wherever a number can be.
func TestStrangeOrdersEnd(t *testing.T) {
	for _, number := range anyInts() {
		for _, load := range [][]int{nil, {}, {number}, {1, 2, 3, number}, make([]int, 100)} {
			for parts := 1; parts <= 10; parts++ {
				x := town(1, parts, number)
				x.Orders[1].Load, x.Orders[1].Penalty, x.Orders[2].Name = load, number, ""
				_, origin, _ := split.Expand(x)
				split.Merge(x, origin, planOf(visits(0, 1, 2, 3, 4, 5, 6, 7, 8, 9), visits(1), visits(number)))
				split.Whole(x, routes(shares{share(1, load...)}, shares{share(1, load...), share(number, load...)}), []int{1})
				split.Whole(x, routes(shares{share(1, load...)}), nil)
			}
		}
	}
}

// R1: an instance with more parts than fit into an int.
func TestGreatNumbersOfPartsEnd(t *testing.T) {
	for _, parts := range [][]int{{math.MaxInt, math.MaxInt}, {math.MaxInt, math.MaxInt, 2}, {9, math.MaxInt - 8}, {math.MaxInt - 1, 2, 2}, {1 << 62, 1 << 62, 1 << 62, 1 << 62}, {1 << 63 / 8, 1 << 60}, {5, 6}, {11}, {1, 10}} {
		wantNotExpanded(t, town(parts...), api.ErrSize)
	}
}

// R1: long lists, too.
func TestLongListsEnd(t *testing.T) {
	const long = 30000
	x := town(1, 1)
	x.Orders[0].Name = strings.Repeat("n", 1<<20)
	x.Apart, x.Before = slices.Repeat(pairs{{0, 1}, {70, long - 1}, {-1, math.MaxInt}}, long), slices.Repeat(pairs{{1, 0}, {62, 63}}, long)
	wantNotExpanded(t, x, api.ErrSize)
	x.Apart, x.Before = slices.Repeat(pairs{{2, 1}, {-1, 0}, {math.MinInt, math.MaxInt}}, long), nil
	split.Expand(x)
	for len(x.Orders) < long {
		x.Orders = append(x.Orders, x.Orders...)
	}
	wantNotExpanded(t, x, api.ErrSize)
	wantWhole(t, x, routes(shares{share(0, 7, 2), share(long-1, 7, 2)}), nil, api.ErrMissing)
	split.Loads(make([]int, long), 2)
}
