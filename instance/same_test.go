package instance_test

import (
	"math/rand"
	"slices"
	"testing"

	"lorry/api"
	"lorry/instance"
)

func wantSame(t *testing.T, what string, a, b api.Instance, want bool) {
	t.Helper()
	if instance.Same(a, b) != want || instance.Same(b, a) != want {
		t.Errorf("%s: Same is %t, and %t with the arguments exchanged; want %t", what, instance.Same(a, b), instance.Same(b, a), want)
	}
}

// P13.2
func TestSameHasItsExample(t *testing.T) {
	x := town(4)
	wantSame(t, "itself", x, x, true)
	wantSame(t, "a copy", x, cloned(x), true)
	wantSame(t, "another Miles of an arc", x, with(func(x *api.Instance) { x.Net.Arcs[1].Miles++ }), false)
}

// P13.2: instances that differ in a single thing are not the same: in a field of an arc, in a point of Travel or of Slow, in a name of a place, in a type, an order or a pair, in the order of two of them, or by one more or one fewer.
func TestSameComparesEachThing(t *testing.T) {
	x := town(4)
	x.Net.Arcs[1].Travel = append(x.Net.Arcs[1].Travel, api.Point{T: 25, A: 40})
	x.Net.Arcs[2].Slow[0].A = 9
	x.Types[1].Cap = []int{20, 10}
	x.Orders[2].Load, x.Orders[3].Off = []int{4, 3}, true
	compared := 0
	for what, y := range variants(x) {
		wantSame(t, what, x, y, false)
		wantSame(t, what+", twice", y, cloned(y), true)
		compared++
	}
	if compared < 500 {
		t.Errorf("only %d variants", compared)
	}
}

// P13.2: the same of an instance with nothing.
func TestSameComparesWithNothing(t *testing.T) {
	var nothing api.Instance
	wantSame(t, "nothing", nothing, nothing, true)
	wantSame(t, "a town", nothing, town(4), false)
	for what, y := range variants(nothing) {
		wantSame(t, what, nothing, y, false)
	}
}

// P13.2: lists are as long, so that a beginning is not the same as the whole.
func TestSameCountsTheElements(t *testing.T) {
	x := town(4)
	for _, cut := range []func(y *api.Instance){
		func(y *api.Instance) { y.Net.Places = y.Net.Places[:2] },
		func(y *api.Instance) { y.Net.Arcs = y.Net.Arcs[:2] },
		func(y *api.Instance) { y.Net.Arcs[2].Travel = y.Net.Arcs[2].Travel[:1] },
		func(y *api.Instance) { y.Net.Arcs[2].Slow = nil },
		func(y *api.Instance) { y.Types = y.Types[:1] },
		func(y *api.Instance) { y.Types = nil },
		func(y *api.Instance) { y.Orders = y.Orders[:3] },
		func(y *api.Instance) { y.Orders = nil },
		func(y *api.Instance) { y.Apart = y.Apart[:2] },
		func(y *api.Instance) { y.Apart = nil },
		func(y *api.Instance) { y.Before = y.Before[:2] },
		func(y *api.Instance) { y.Before = nil },
	} {
		wantSame(t, "a shorter list", x, with(cut), false)
	}
}

// P13.2: pairs of Apart and of Before do not stand for each other, nor those with exchanged numbers.
func TestSameComparesPairs(t *testing.T) {
	x := town(2)
	exchanged := cloned(x)
	exchanged.Apart, exchanged.Before = x.Before, x.Apart
	wantSame(t, "the lists exchanged", x, exchanged, false)
	for _, a := range []pairs{nil, {{0, 1}}, {{1, 0}}, {{0, 1}, {1, 0}}, {{1, 0}, {0, 1}}} {
		for _, b := range []pairs{nil, {{0, 1}}, {{1, 0}}, {{0, 1}, {1, 0}}, {{1, 0}, {0, 1}}} {
			wantSame(t, "Apart", api.Instance{Apart: a}, api.Instance{Apart: b}, slices.Equal(a, b))
			wantSame(t, "Before", api.Instance{Before: a}, api.Instance{Before: b}, slices.Equal(a, b))
		}
	}
}

// P13.2: Travel and Slow of an arc do not stand for each other.
func TestSameDoesNotMixPoints(t *testing.T) {
	l := []api.Point{{T: 1, A: 2}}
	travel, slow := api.Instance{Net: api.Network{Arcs: []api.Arc{{Travel: l}}}}, api.Instance{Net: api.Network{Arcs: []api.Arc{{Slow: l}}}}
	wantSame(t, "Travel", travel, travel, true)
	wantSame(t, "Slow", slow, slow, true)
	wantSame(t, "Travel and Slow", travel, slow, false)
}

// P13.2: travel functions with the same arrivals, but other points, are not equal.
func TestSameComparesThePointsAndNotTheArrivals(t *testing.T) {
	a, b := town(1), town(1)
	a.Net.Arcs[0].Travel, b.Net.Arcs[0].Travel = []api.Point{{T: 0, A: 5}}, []api.Point{{T: 10, A: 15}}
	wantSame(t, "points", a, b, false)
}

// P13.2, R4: nil and empty lists are equivalent.
func TestSameTakesNilForEmpty(t *testing.T) {
	x := api.Instance{Net: api.Network{Arcs: []api.Arc{{}}}, Types: []api.Type{{}}, Orders: []api.Order{{}}}
	y := api.Instance{
		Net:    api.Network{Places: []string{}, Arcs: []api.Arc{{Travel: []api.Point{}, Slow: []api.Point{}}}},
		Types:  []api.Type{{Cap: []int{}}},
		Orders: []api.Order{{Load: []int{}}},
		Apart:  pairs{},
		Before: pairs{},
	}
	wantSame(t, "empty lists", x, y, true)
	wantSame(t, "empty lists of lists", api.Instance{}, api.Instance{Net: api.Network{Arcs: []api.Arc{}}, Types: []api.Type{}, Orders: []api.Order{}}, true)
}

// P13.2: for any instances.
func TestSameOfDrawnInstances(t *testing.T) {
	r := rand.New(rand.NewSource(133))
	different := 0
	for i := range 4000 {
		x := drawn(r)
		if i%4 == 0 {
			x = many(r)
		}
		y := changed(r, x)
		if i%8 == 1 {
			y = cloned(x)
		}
		want := equal(x, y)
		wantSame(t, "a drawn instance", x, y, want)
		if !want {
			different++
		}
	}
	if different < 2000 || different > 3600 {
		t.Errorf("%d of 4000 instances were different", different)
	}
}
