package network_test

import (
	"math/rand"
	"slices"
	"strconv"

	"lorry/api"
	"lorry/travel"
)

// lastDeparture is the latest departure that the functions expect.
const lastDeparture = 1 << 20

// points returns the points of a list of T and A, one after the other.
func points(numbers ...int) []api.Point {
	var l []api.Point
	for pair := range slices.Chunk(numbers, 2) {
		l = append(l, api.Point{T: pair[0], A: pair[1]})
	}
	return l
}

// arc returns an arc of the profile 0 that takes some ticks at any time.
func arc(from, to, ticks int) api.Arc {
	return api.Arc{From: from, To: to, Travel: points(0, ticks)}
}

// names returns the names of so many places.
func names(count int) []string {
	l := make([]string, count)
	for i := range l {
		l[i] = "p" + strconv.Itoa(i)
	}
	return l
}

// example returns the network of the chapter's example.
func example() api.Network {
	return api.Network{Places: []string{"A", "B", "C"}, Arcs: []api.Arc{arc(0, 1, 10), arc(1, 2, 5), arc(0, 2, 20)}}
}

// ways returns all arcs between so many places, of the profiles from 0 on, up to a number of arcs.
func ways(places, count int) []api.Arc {
	var l []api.Arc
	for profile := range 8 {
		for from := range places {
			for to := range places {
				if from != to && len(l) < count {
					a := arc(from, to, 3+from+to)
					a.Profile = profile
					l = append(l, a)
				}
			}
		}
	}
	return l
}

// slow returns so many points of Slow, two ticks apart.
func slow(count int) []api.Point {
	l := make([]api.Point, count)
	for i := range l {
		l[i] = api.Point{T: 2 * i, A: i}
	}
	return l
}

// drawn returns a right network of up to so many places, with arcs in any order.
func drawn(r *rand.Rand, most int) api.Network {
	n := api.Network{Places: names(1 + r.Intn(most))}
	all := ways(len(n.Places), 1<<20)
	profiles := 1 + r.Intn(3)
	density := 1 + r.Intn(4)
	for _, i := range r.Perm(len(all)) {
		a := all[i]
		if a.Profile < profiles && r.Intn(4) < density && len(n.Arcs) < api.MaxArcs {
			a.Miles = r.Intn(api.MaxMiles + 1)
			a.Travel = drawnTravel(r)
			a.Slow = drawnSlow(r)
			n.Arcs = append(n.Arcs, a)
		}
	}
	return n
}

// drawnTicks returns some ticks in ascending order.
func drawnTicks(r *rand.Rand, count int) []int {
	width := []int{20, 100, api.MaxTime + 1}[r.Intn(3)]
	l := r.Perm(width)[:count]
	slices.Sort(l)
	return l
}

func drawnTravel(r *rand.Rand) []api.Point {
	ticks := drawnTicks(r, 1+r.Intn(5))
	most := []int{1, 10, 100, api.MaxTime + 1}[r.Intn(4)]
	l, before := make([]api.Point, len(ticks)), 0
	for i, t := range ticks {
		before = max(before, t+r.Intn(most))
		l[i] = api.Point{T: t, A: before}
	}
	return l
}

func drawnSlow(r *rand.Rand) []api.Point {
	ticks := drawnTicks(r, r.Intn(5)*r.Intn(5))
	most := []int{2, 10, 100, api.MaxTime + 1}[r.Intn(4)]
	l := make([]api.Point, len(ticks))
	for i, t := range ticks {
		l[i] = api.Point{T: t, A: r.Intn(most)}
	}
	return l
}

// departures returns departures at the limits, and around all points of the arcs.
func departures(n api.Network) []int {
	l := []int{0, 1, 2, 4095, 4096, 4097, 9000, lastDeparture - 1, lastDeparture}
	for _, a := range n.Arcs {
		for _, p := range slices.Concat(a.Travel, a.Slow) {
			l = append(l, max(0, p.T-1), p.T, p.T+1)
		}
	}
	slices.Sort(l)
	return slices.Compact(l)
}

// over returns the arrival over an arc: the last delays are those that count only for late departures.
func over(a api.Arc, t int) int {
	if len(a.Slow) == 0 {
		return travel.Arrive(a.Travel, t)
	}
	last := len(a.Slow) - 1
	delay := a.Slow[last]
	a.Slow = a.Slow[:last]
	if t < delay.T {
		return over(a, t)
	}
	return over(a, t) + delay.A
}

// cloned returns a network that shares no memory with the original.
func cloned(n api.Network) api.Network {
	result := api.Network{Places: slices.Clone(n.Places), Arcs: slices.Clone(n.Arcs)}
	for i, a := range result.Arcs {
		result.Arcs[i].Travel = slices.Clone(a.Travel)
		result.Arcs[i].Slow = slices.Clone(a.Slow)
	}
	return result
}

// sameArc compares arcs; nil and empty lists are the same.
func sameArc(a, b api.Arc) bool {
	return a.From == b.From && a.To == b.To && a.Profile == b.Profile && a.Miles == b.Miles && slices.Equal(a.Travel, b.Travel) && slices.Equal(a.Slow, b.Slow)
}

func sameNetwork(a, b api.Network) bool {
	return slices.Equal(a.Places, b.Places) && slices.EqualFunc(a.Arcs, b.Arcs, sameArc)
}
