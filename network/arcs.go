package network

import (
	"slices"

	"lorry/api"
	"lorry/travel"
)

// nowhere is the arrival at a place that has not been reached.
const nowhere = -1

// way is what an arc is found by; a right network has at most one arc for it.
type way struct{ profile, from, to int }

func wayOf(a api.Arc) way {
	return way{a.Profile, a.From, a.To}
}

// firstArcs returns for each way the index of its first arc.
func firstArcs(arcs []api.Arc) map[way]int {
	result := make(map[way]int, len(arcs))
	for i, a := range slices.Backward(arcs) {
		result[wayOf(a)] = i
	}
	return result
}

// firstArc returns the index of the first arc of a way, or -1. Routes are made of many calls of Go, each for one arc: looking at the arcs takes far less time than a map of them that is used once.
func firstArc(arcs []api.Arc, w way) int {
	for i := range arcs {
		if wayOf(arcs[i]) == w {
			return i
		}
	}
	return -1
}

// copyOf returns an arc that shares no memory with the original.
func copyOf(a api.Arc) api.Arc {
	a.Travel = slices.Clone(a.Travel)
	a.Slow = slices.Clone(a.Slow)
	return a
}

// arrival returns the arrival over an arc, with its delays.
func arrival(a api.Arc, t int) int {
	result := travel.Arrive(a.Travel, t)
	for _, p := range a.Slow {
		if p.T <= t {
			result += p.A
		}
	}
	return result
}

// nextPlace returns, of the places that have been reached and not left, the one with the earliest arrival.
func nextPlace(arrivals []int, left []bool) (int, bool) {
	next, ok := 0, false
	for place, t := range arrivals {
		if t != nowhere && !left[place] && (!ok || t < arrivals[next]) {
			next, ok = place, true
		}
	}
	return next, ok
}

// earlier returns the earlier one of two arrivals, of which the first one can be nowhere.
func earlier(before, now int) int {
	if before == nowhere {
		return now
	}
	return min(before, now)
}

// delay adds a point to Slow of an arc, or increases the last one.
func delay(a *api.Arc, t, ticks int) api.Errno {
	if len(a.Slow) == 0 || a.Slow[len(a.Slow)-1].T < t {
		if len(a.Slow) >= api.MaxPoints {
			return api.ErrSize
		}
		a.Slow = append(a.Slow, api.Point{T: t, A: ticks})
		return api.OK
	}
	last := &a.Slow[len(a.Slow)-1]
	if t < last.T || ticks > api.MaxTime-last.A {
		return api.ErrArg
	}
	last.A += ticks
	return api.OK
}
