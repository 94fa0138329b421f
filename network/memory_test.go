package network_test

import (
	"math"
	"math/rand"
	"slices"
	"testing"

	"lorry/api"
	"lorry/network"
)

// callAll calls every function with some numbers.
func callAll(n api.Network, x, y, z int) {
	network.Check(n)
	network.Find(n, x, y, z)
	network.Go(n, x, y, z, 7)
	network.Go(n, 0, x, y, z)
	network.Earliest(n, x, y, z)
	network.Earliest(n, 0, x, y)
	network.Slower(n, x, y, 7, z)
	network.Slower(n, 0, 1, x, y)
}

// withRoom returns a network whose lists are parts of longer ones, and these.
func withRoom(n api.Network) (api.Network, [][]string, [][]api.Arc, [][]api.Point) {
	n = cloned(n)
	places := [][]string{append(n.Places, "x", "y")}
	arcs := [][]api.Arc{append(n.Arcs, arc(7, 8, 9), arc(8, 7, 9))}
	n.Places, n.Arcs = places[0][:len(n.Places)], arcs[0][:len(n.Arcs)]
	var lists [][]api.Point
	for i := range n.Arcs {
		a := &n.Arcs[i]
		for _, l := range []*[]api.Point{&a.Travel, &a.Slow} {
			whole := append(*l, points(-3, -4, -5, -6)...)
			*l = whole[:len(*l)]
			lists = append(lists, whole)
		}
	}
	return n, places, arcs, lists
}

func clonedLists[T any](lists [][]T) [][]T {
	var l [][]T
	for _, one := range lists {
		l = append(l, slices.Clone(one))
	}
	return l
}

// R4: neither the lists are modified nor what lies behind them.
func TestArgumentsAreNotModified(t *testing.T) {
	r := rand.New(rand.NewSource(100))
	for range 200 {
		n, places, arcs, lists := withRoom(drawn(r, 4))
		beforePlaces, beforeArcs, beforeLists := clonedLists(places), clonedLists(arcs), clonedLists(lists)
		for x := range 4 {
			for y := range 4 {
				callAll(n, x, y, 4096)
				network.Slower(n, x, y, lastTick(n, x, y), 1)
			}
		}
		if !slices.EqualFunc(lists, beforeLists, slices.Equal) || !slices.Equal(places[0], beforePlaces[0]) || !slices.EqualFunc(arcs[0], beforeArcs[0], sameArc) {
			t.Errorf("%v was modified", n)
		}
	}
}

// overwrite changes all that a network refers to.
func overwrite(n api.Network) {
	clear(n.Places)
	for _, a := range n.Arcs {
		clear(a.Travel)
		clear(a.Slow)
	}
	clear(n.Arcs)
}

// R4, R6: results are new, and the same ones each time.
func TestResultsAreNew(t *testing.T) {
	n := crossing()
	before := cloned(n)
	slower, err := network.Slower(n, 0, 1, 20, 9)
	want := cloned(slower)
	overwrite(slower)
	if err != api.OK || !sameNetwork(n, before) {
		t.Errorf("%v became %v; error %d", before, n, err)
	}
	wantSlower(t, n, 0, 1, 20, 9, want, api.OK)
	found, _ := network.Find(n, 1, 0, 1)
	overwrite(api.Network{Arcs: []api.Arc{found}})
	wantArcFound(t, n, 1, 0, 1, before.Arcs[1], true)
	clear(network.Earliest(n, 0, 0, 5))
	wantEarliest(t, n, 0, 0, 5, 5, 14, 19, -1)
	n.Places[3], n.Arcs[5].Miles = "p0", -1
	clear(network.Check(n))
	wantFaults(t, n, append(at("place 3", api.ErrTwice), at("arc 5", api.ErrArg)...)...)
}

// R4: what is given to a result later does not reach its argument, either.
func TestArgumentsDoNotReachResults(t *testing.T) {
	n := crossing()
	want, err := network.Slower(crossing(), 1, 2, 5, 6)
	slower, e := network.Slower(n, 1, 2, 5, 6)
	found, ok := network.Find(n, 7, 2, 1)
	overwrite(n)
	if err != api.OK || e != api.OK || !sameNetwork(slower, want) {
		t.Errorf("%v became %v", want, slower)
	}
	if !ok || !sameArc(found, crossing().Arcs[0]) {
		t.Errorf("the arc became %v", found)
	}
}

// strange returns networks that are not right.
func strange() []api.Network {
	r := rand.New(rand.NewSource(101))
	l := []api.Network{{}, {Arcs: ways(3, 9)}, {Places: make([]string, 300), Arcs: ways(40, 5000)}, {Places: names(2), Arcs: make([]api.Arc, 2000)}}
	for range 300 {
		l = append(l, changed(r, drawn(r, 5)))
	}
	n := example()
	n.Arcs = append(n.Arcs, arc(0, 0, 4), arc(1, 1, 4), arc(2, 9, 4), arc(-1, 0, 4), arc(math.MaxInt, math.MinInt, 4))
	for _, x := range []int{math.MinInt, -1, 4097, math.MaxInt} {
		m := cloned(n)
		m.Arcs[0].Travel = points(x, x, 0, x)
		m.Arcs[1].Slow = points(x, x, -1, x, x, -1)
		m.Arcs[2].Profile, m.Arcs[2].Miles = x, x
		l = append(l, m)
	}
	return l
}

// R1: whatever the arguments are.
func TestAllCallsEnd(t *testing.T) {
	numbers := []int{math.MinInt, -1, 0, 1, 2, 3, 8, 4096, 4097, 1<<30 + 1, math.MaxInt}
	for _, n := range strange() {
		for _, x := range numbers {
			for _, y := range numbers {
				callAll(n, x, y, x)
				callAll(n, y, x, x)
				callAll(n, 0, x, y)
			}
		}
	}
}

// R1: large lists, too.
func TestLargeNetworksEnd(t *testing.T) {
	n := api.Network{Places: names(3000), Arcs: ways(150, 1<<20)}
	if faults := network.Check(n); !slices.Equal(faults, append(at("places", api.ErrSize), at("arcs", api.ErrSize)...)) {
		t.Errorf("%d faults", len(faults))
	}
	callAll(n, 0, 1, 5)
	callAll(n, 2999, 2999, 5)
	n.Arcs[0].Slow = make([]api.Point, 200000)
	n.Arcs[1].Travel = make([]api.Point, 200000)
	if faults := network.Check(n); len(faults) != 2+200000+200000 {
		t.Errorf("%d faults", len(faults))
	}
	callAll(n, 0, 0, 1)
}
