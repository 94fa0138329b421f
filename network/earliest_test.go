package network_test

import (
	"math/rand"
	"slices"
	"testing"

	"lorry/api"
	"lorry/network"
)

func wantEarliest(t *testing.T, n api.Network, profile, from, departure int, want ...int) {
	t.Helper()
	if got := network.Earliest(n, profile, from, departure); !slices.Equal(got, want) {
		t.Errorf("Earliest(%d, %d, %d) = %v; want %v in %v", profile, from, departure, got, want, n)
	}
}

// P9.3
func TestEarliestHasItsExamples(t *testing.T) {
	n := example()
	wantEarliest(t, n, 0, 0, 3, 3, 13, 18)
	wantEarliest(t, n, 0, 0, 0, 0, 10, 15)
	wantEarliest(t, n, 0, 1, 3, -1, 3, 8)
	wantEarliest(t, n, 0, 2, 3, -1, -1, 3)
	wantEarliest(t, n, 0, 0, lastDeparture, 1048576, 1048586, 1048591)
	slower, err := network.Slower(n, 1, 2, 13, 4)
	if err != api.OK {
		t.Fatal(err)
	}
	wantEarliest(t, slower, 0, 0, 3, 3, 13, 22)
	wantEarliest(t, slower, 0, 0, 2, 2, 12, 17)
	wantEarliest(t, slower, 0, 0, 90, 90, 100, 109)
}

// P9.3: there are no arcs of other profiles.
func TestEarliestKeepsToItsProfile(t *testing.T) {
	n := crossing()
	wantEarliest(t, n, 0, 0, 5, 5, 14, 19, -1)
	wantEarliest(t, n, 0, 1, 5, 5, 5, 10, -1)
	wantEarliest(t, n, 1, 0, 5, 5, 12, -1, -1)
	wantEarliest(t, n, 2, 0, 5, 5, -1, 11, -1)
	wantEarliest(t, n, 7, 2, 10, -1, 20, 10, -1)
	for _, profile := range append(anyInts(), 3, 8) {
		wantEarliest(t, n, profile, 0, 5, 5, -1, -1, -1)
		wantEarliest(t, n, profile, 3, 0, -1, -1, -1, 0)
	}
}

// P9.3: without a place to begin at, nothing is reached.
func TestEarliestNeedsAPlace(t *testing.T) {
	for _, from := range append(anyInts(), 3, 4) {
		wantEarliest(t, example(), 0, from, 5, -1, -1, -1)
		wantEarliest(t, api.Network{}, 0, from, 5)
	}
	wantEarliest(t, api.Network{}, 0, 0, 5)
	wantEarliest(t, api.Network{Places: names(1)}, 0, 0, 5, 5)
	wantEarliest(t, api.Network{Places: names(1)}, 0, 1, 5, -1)
	wantEarliest(t, api.Network{Places: names(2)}, 0, 1, 0, -1, 0)
}

// P9.3: the best way can have many arcs, wherever they are in the list.
func TestEarliestGoesByManyArcs(t *testing.T) {
	n := api.Network{Places: names(24)}
	var want []int
	for i := range 24 {
		want = append(want, 7+2*i)
		for to := i + 1; to < 24; to++ {
			n.Arcs = append(n.Arcs, arc(i, to, 3*(to-i)-1), arc(to, i, 0))
		}
	}
	wantEarliest(t, n, 0, 0, 7, want...)
	slices.Reverse(n.Arcs)
	wantEarliest(t, n, 0, 0, 7, want...)
	wantEarliest(t, n, 0, 23, 7, slices.Repeat([]int{7}, 24)...)
	r := rand.New(rand.NewSource(95))
	for range 20 {
		r.Shuffle(len(n.Arcs), func(i, j int) { n.Arcs[i], n.Arcs[j] = n.Arcs[j], n.Arcs[i] })
		wantEarliest(t, n, 0, 0, 7, want...)
	}
}

// P9.3: which way is the best one depends on the departure, and delays on the tick at which an arc begins.
func TestEarliestDependsOnTheDeparture(t *testing.T) {
	n := api.Network{Places: names(3), Arcs: []api.Arc{
		{From: 0, To: 2, Travel: points(0, 20)},
		{From: 0, To: 1, Travel: points(0, 5, 100, 105, 110, 150), Slow: points(50, 1, 60, 30)},
		{From: 1, To: 2, Travel: points(0, 5), Slow: points(30, 3)},
	}}
	for _, c := range []struct{ departure, there, end int }{
		{0, 5, 10}, {24, 29, 34}, {25, 30, 38}, {26, 31, 39}, {49, 54, 62}, {50, 56, 64}, {51, 57, 65}, {59, 65, 73}, {60, 96, 80}, {61, 97, 81}, {100, 136, 120}, {101, 141, 121},
	} {
		wantEarliest(t, n, 0, 0, c.departure, c.departure, c.there, c.end)
	}
}

// leastArrivals goes all ways on which no place is visited twice, and returns the least arrival at each place.
func leastArrivals(n api.Network, profile, from, t int) []int {
	result := slices.Repeat([]int{-1}, len(n.Places))
	visited := make([]bool, len(n.Places))
	var visit func(place, t int)
	visit = func(place, t int) {
		if visited[place] {
			return
		}
		if result[place] < 0 || t < result[place] {
			result[place] = t
		}
		visited[place] = true
		for _, a := range n.Arcs {
			if a.Profile == profile && a.From == place {
				visit(a.To, over(a, t))
			}
		}
		visited[place] = false
	}
	visit(from, t)
	return result
}

// P9.3: compared with all ways.
func TestEarliestFindsTheBestWays(t *testing.T) {
	r := rand.New(rand.NewSource(96))
	for range 250 {
		n := drawn(r, 5)
		all := departures(n)
		for range 20 {
			profile, from, departure := r.Intn(3), r.Intn(len(n.Places)), all[r.Intn(len(all))]
			wantEarliest(t, n, profile, from, departure, leastArrivals(n, profile, from, departure)...)
		}
	}
}

// checkTriangles compares the arrivals with those over each arc for the arrival at its beginning.
func checkTriangles(t *testing.T, n api.Network, profile, from, departure int) {
	t.Helper()
	arrivals := network.Earliest(n, profile, from, departure)
	attained := make([]bool, len(arrivals))
	for _, a := range n.Arcs {
		if a.Profile != profile || arrivals[a.From] < 0 {
			continue
		}
		next := over(a, arrivals[a.From])
		if arrivals[a.To] < 0 || arrivals[a.To] > next {
			t.Errorf("from %d at %d: %v, but %d over %v", from, departure, arrivals, next, a)
		}
		attained[a.To] = attained[a.To] || arrivals[a.To] == next
	}
	for place, arrival := range arrivals {
		if place == from && arrival != departure || place != from && arrival >= 0 && !attained[place] {
			t.Errorf("from %d at %d: %v, but no arc arrives at %d then", from, departure, arrivals, place)
		}
	}
}

// P9.5
func TestArrivalsAreNotLaterThanOverAnyArc(t *testing.T) {
	r := rand.New(rand.NewSource(97))
	for range 60 {
		n := drawn(r, 24)
		all := departures(n)
		for range 10 {
			checkTriangles(t, n, r.Intn(3), r.Intn(len(n.Places)), all[r.Intn(len(all))])
		}
	}
}

// P9.5: a later departure never has an earlier arrival anywhere.
func TestALaterDepartureArrivesNowhereEarlier(t *testing.T) {
	r := rand.New(rand.NewSource(98))
	for range 20 {
		n := drawn(r, 8)
		from := r.Intn(len(n.Places))
		before := network.Earliest(n, 0, from, 0)
		for departure := 1; departure < 4200; departure += 1 + r.Intn(5) {
			arrivals := network.Earliest(n, 0, from, departure)
			for place := range arrivals {
				if arrivals[place] < before[place] || arrivals[place] < 0 && before[place] >= 0 {
					t.Fatalf("from %d at %d: %v, before %v", from, departure, arrivals, before)
				}
			}
			before = arrivals
		}
	}
}
