package network_test

import (
	"math"
	"math/rand"
	"slices"
	"testing"

	"lorry/api"
	"lorry/network"
)

func wantArcFound(t *testing.T, n api.Network, profile, from, to int, want api.Arc, wantOk bool) {
	t.Helper()
	if got, ok := network.Find(n, profile, from, to); ok != wantOk || !sameArc(got, want) {
		t.Errorf("Find(%d, %d, %d) = %v, %v; want %v, %v", profile, from, to, got, ok, want, wantOk)
	}
}

func wantGo(t *testing.T, n api.Network, profile, from, to, departure, want, wantMiles int, wantErr api.Errno) {
	t.Helper()
	if got, miles, err := network.Go(n, profile, from, to, departure); got != want || miles != wantMiles || err != wantErr {
		t.Errorf("Go(%d, %d, %d, %d) = %d, %d, %d; want %d, %d, %d", profile, from, to, departure, got, miles, err, want, wantMiles, wantErr)
	}
}

// anyInts returns numbers that are no places, no profiles and no departures.
func anyInts() []int {
	return []int{math.MinInt, math.MinInt + 1, -4097, -2, -1, 24, 25, 4097, 1 << 32, math.MaxInt - 1, math.MaxInt}
}

// crossing returns a network with arcs of several profiles between the same places, in no order.
func crossing() api.Network {
	return api.Network{Places: names(4), Arcs: []api.Arc{
		{From: 2, To: 1, Profile: 7, Miles: 10000, Travel: points(0, 5, 20, 35)},
		{From: 0, To: 1, Profile: 1, Miles: 11, Travel: points(0, 7), Slow: points(10, 100, 20, 30)},
		{From: 1, To: 2, Profile: 0, Miles: 12, Travel: points(0, 4), Slow: points(0, 1)},
		{From: 0, To: 1, Profile: 0, Miles: 13, Travel: points(0, 9)},
		{From: 1, To: 0, Profile: 0, Miles: 0, Travel: points(0, 0)},
		{From: 0, To: 2, Profile: 2, Miles: 14, Travel: points(0, 6), Slow: points(4096, 4096)},
	}}
}

// P9.2
func TestFindReturnsTheArcOfAProfile(t *testing.T) {
	n := crossing()
	for _, a := range n.Arcs {
		wantArcFound(t, n, a.Profile, a.From, a.To, a, true)
	}
	wantArcFound(t, example(), 0, 0, 2, arc(0, 2, 20), true)
}

// P9.2: a zero arc for all other numbers.
func TestFindHasNoOtherArcs(t *testing.T) {
	n := crossing()
	for profile := -2; profile < 10; profile++ {
		for from := -2; from < 6; from++ {
			for to := -2; to < 6; to++ {
				is := func(a api.Arc) bool { return a.Profile == profile && a.From == from && a.To == to }
				if i := slices.IndexFunc(n.Arcs, is); i >= 0 {
					wantArcFound(t, n, profile, from, to, n.Arcs[i], true)
				} else {
					wantArcFound(t, n, profile, from, to, api.Arc{}, false)
				}
			}
		}
	}
	for _, x := range anyInts() {
		wantArcFound(t, n, x, 0, 1, api.Arc{}, false)
		wantArcFound(t, n, 0, x, 1, api.Arc{}, false)
		wantArcFound(t, n, 0, 0, x, api.Arc{}, false)
		wantArcFound(t, n, x, x, x, api.Arc{}, false)
	}
	wantArcFound(t, api.Network{}, 0, 0, 0, api.Arc{}, false)
	wantArcFound(t, api.Network{Places: names(2)}, 0, 0, 1, api.Arc{}, false)
}

// P9.2
func TestGoHasItsExamples(t *testing.T) {
	n := crossing()
	for _, c := range []struct{ profile, from, to, departure, arrival, miles int }{
		{0, 0, 1, 0, 9, 13}, {0, 0, 1, 3, 12, 13}, {0, 0, 1, 4096, 4105, 13}, {0, 0, 1, 1 << 20, 1048585, 13},
		{0, 1, 0, 0, 0, 0}, {0, 1, 0, 77, 77, 0}, {0, 1, 2, 0, 5, 12}, {0, 1, 2, 8, 13, 12},
		{7, 2, 1, 0, 5, 10000}, {7, 2, 1, 1, 7, 10000}, {7, 2, 1, 10, 20, 10000}, {7, 2, 1, 30, 45, 10000},
		{1, 0, 1, 0, 7, 11}, {1, 0, 1, 9, 16, 11}, {1, 0, 1, 10, 117, 11}, {1, 0, 1, 11, 118, 11}, {1, 0, 1, 19, 126, 11}, {1, 0, 1, 20, 157, 11}, {1, 0, 1, 21, 158, 11}, {1, 0, 1, 1 << 20, 1048713, 11},
		{2, 0, 2, 4095, 4101, 14}, {2, 0, 2, 4096, 8198, 14}, {2, 0, 2, 4097, 8199, 14},
	} {
		wantGo(t, n, c.profile, c.from, c.to, c.departure, c.arrival, c.miles, api.OK)
	}
	wantGo(t, example(), 0, 0, 2, 3, 23, 0, api.OK)
}

// P9.2: to go from a place to itself takes no time, with any profile.
func TestGoStaysWhereItIs(t *testing.T) {
	for _, n := range []api.Network{example(), crossing(), {Places: names(3)}} {
		for place := range n.Places {
			for _, departure := range []int{0, 1, 4096, 4097, lastDeparture} {
				for _, profile := range append(anyInts(), 0, 1, 7, 8) {
					wantGo(t, n, profile, place, place, departure, departure, 0, api.OK)
				}
			}
		}
	}
	n := example()
	n.Arcs = append(n.Arcs, api.Arc{From: 1, To: 1, Miles: 3, Travel: points(0, 9)})
	wantGo(t, n, 0, 1, 1, 5, 5, 0, api.OK)
}

// P9.2: ErrPlace comes first, also where both places are the same one.
func TestGoNeedsPlacesAndAnArc(t *testing.T) {
	n := crossing()
	for _, departure := range []int{0, 5, lastDeparture} {
		for _, x := range append(anyInts(), 4, 5) {
			wantGo(t, n, 0, x, 1, departure, 0, 0, api.ErrPlace)
			wantGo(t, n, 0, 0, x, departure, 0, 0, api.ErrPlace)
			wantGo(t, n, 0, x, x, departure, 0, 0, api.ErrPlace)
			wantGo(t, n, 8, x, -1, departure, 0, 0, api.ErrPlace)
		}
		for _, x := range append(anyInts(), 8) {
			wantGo(t, n, x, 0, 1, departure, 0, 0, api.ErrArc)
		}
		wantGo(t, n, 0, 2, 1, departure, 0, 0, api.ErrArc)
		wantGo(t, n, 1, 1, 0, departure, 0, 0, api.ErrArc)
		wantGo(t, n, 0, 0, 3, departure, 0, 0, api.ErrArc)
		wantGo(t, n, 0, 3, 0, departure, 0, 0, api.ErrArc)
	}
	wantGo(t, api.Network{}, 0, 0, 0, 5, 0, 0, api.ErrPlace)
	// A place that the network does not have is no place, even where an arc leads.
	wantGo(t, api.Network{Places: names(1), Arcs: []api.Arc{arc(0, 1, 5)}}, 0, 0, 1, 5, 0, 0, api.ErrPlace)
}

// P9.2: all arcs of drawn networks, for departures around all points.
func TestGoFollowsTheArcs(t *testing.T) {
	r := rand.New(rand.NewSource(93))
	for range 60 {
		n := drawn(r, 4)
		for profile := range 4 {
			for from := range n.Places {
				for to := range n.Places {
					checkGo(t, n, profile, from, to)
				}
			}
		}
	}
}

// checkGo compares Find and Go with the arc, which is looked for from the end on.
func checkGo(t *testing.T, n api.Network, profile, from, to int) {
	t.Helper()
	for i := len(n.Arcs) - 1; i >= 0; i-- {
		a := n.Arcs[i]
		if a.Profile != profile || a.From != from || a.To != to {
			continue
		}
		wantArcFound(t, n, profile, from, to, a, true)
		for _, departure := range departures(n) {
			wantGo(t, n, profile, from, to, departure, over(a, departure), a.Miles, api.OK)
		}
		return
	}
	wantArcFound(t, n, profile, from, to, api.Arc{}, false)
	if from != to {
		wantGo(t, n, profile, from, to, 5, 0, 0, api.ErrArc)
	}
}

// P9.5: a later departure never has an earlier arrival.
func TestNobodyIsOvertaken(t *testing.T) {
	r := rand.New(rand.NewSource(94))
	for range 20 {
		n := drawn(r, 3)
		for _, a := range n.Arcs {
			before := 0
			for departure := range 4200 {
				arrival, _, err := network.Go(n, a.Profile, a.From, a.To, departure)
				if err != api.OK || arrival < before || arrival < departure {
					t.Fatalf("%v: %d for %d, before it %d; error %d", a, arrival, departure, before, err)
				}
				before = arrival
			}
		}
	}
}
