package travel_test

import (
	"math"
	"math/rand"
	"slices"

	"lorry/api"
)

// lastDeparture is the latest departure that has an arrival.
const lastDeparture = 1 << 30

// points returns the points of a list of T and A, one after the other.
func points(numbers ...int) []api.Point {
	var l []api.Point
	for pair := range slices.Chunk(numbers, 2) {
		l = append(l, api.Point{T: pair[0], A: pair[1]})
	}
	return l
}

// row returns so many points with T from 0 on, each with a travel time of 5 ticks.
func row(count int) []api.Point {
	l := make([]api.Point, count)
	for i := range l {
		l[i] = api.Point{T: i, A: i + 5}
	}
	return l
}

// notTravel returns lists that are not travel functions, most of them for one reason alone.
func notTravel() [][]api.Point {
	return [][]api.Point{
		nil, {}, row(api.MaxPoints + 1), row(100),
		points(-1, 5), points(api.MaxTime+1, 5000), points(math.MinInt, 5), points(math.MaxInt, math.MaxInt),
		points(7, 6), points(0, -1), points(0, 4097), points(4096, 8193), points(0, math.MinInt), points(9, math.MaxInt),
		points(0, 5, 0, 5), points(0, 5, 0, 6), points(3, 8, 2, 8), points(0, 9, 1, 8), points(0, 5, 20, 35, 20, 36), points(0, 5, 20, 35, 21, 34), points(-1, 0, 4, 9), points(0, 5, 4, 3), points(0, 5, 4097, 5000),
	}
}

// ordinary returns travel functions with the edges that the chapter names.
func ordinary() [][]api.Point {
	return [][]api.Point{
		points(0, 5, 20, 35), points(7, 12), points(0, 5), points(5, 9), points(0, 10, 10, 10),
		points(0, 0), points(0, 4096), points(4096, 4096), points(4096, 8192), points(0, 0, 4096, 8192), points(0, 4096, 4096, 4096), points(0, 4096, 4096, 8192), points(0, 4096, 1, 4096, 4096, 8192),
		points(1, 1), points(1, 3, 2, 9), points(4095, 4100, 4096, 4102), points(3, 10, 10, 12, 11, 500, 4000, 4444), points(0, 3, 3, 4), points(10, 10, 13, 20), points(100, 200, 200, 200, 300, 300, 400, 1000),
		row(2), row(api.MaxPoints - 2), row(api.MaxPoints - 1), row(api.MaxPoints),
	}
}

// drawn returns a travel function of up to MaxPoints points, which can be flat, steep, dense or far apart.
func drawn(r *rand.Rand) []api.Point {
	width := []int{api.MaxPoints, 40, api.MaxTime + 1}[r.Intn(3)]
	first := []int{0, r.Intn(api.MaxTime + 2 - width), api.MaxTime + 1 - width}[r.Intn(3)]
	ticks := r.Perm(width)[:1+r.Intn(api.MaxPoints)]
	slices.Sort(ticks)
	l, before := make([]api.Point, len(ticks)), 0
	for i, t := range ticks {
		t += first
		before = drawnBetween(r, max(before, t), t+api.MaxTime)
		l[i] = api.Point{T: t, A: before}
	}
	return l
}

// drawnBetween returns a number of a range, often one at its ends.
func drawnBetween(r *rand.Rand, least, most int) int {
	switch r.Intn(8) {
	case 0, 1:
		return least
	case 2, 3, 4:
		return min(most, least+r.Intn(9))
	case 5, 6:
		return min(most, least+r.Intn(200))
	}
	return most - r.Intn(most-least+1)
}

// samples returns ordinary functions and so many drawn ones.
func samples(r *rand.Rand, count int) [][]api.Point {
	l := ordinary()
	for range count {
		l = append(l, drawn(r))
	}
	return l
}

// small returns all travel functions with at most so many points, T below width, and travel times below width.
func small(most, width int) [][]api.Point {
	var all [][]api.Point
	var extend func(l []api.Point, t, a int)
	extend = func(l []api.Point, t, a int) {
		if len(l) > 0 {
			all = append(all, l)
		}
		for ; len(l) < most && t < width; t++ {
			for next := max(a, t); next < t+width; next++ {
				extend(append(slices.Clone(l), api.Point{T: t, A: next}), t+1, next)
			}
		}
	}
	extend(nil, 0, 0)
	return all
}

// arrivals steps from tick to tick, without a division, and returns the arrivals for the departures from 0 to most.
func arrivals(l []api.Point, most int) []int {
	result := make([]int, most+1)
	first, next := l[0], 1
	arrive, rest := first.A-first.T, 0
	for t := range result {
		result[t] = arrive
		for next < len(l) && t == l[next].T {
			next++
		}
		if t < first.T || next == len(l) {
			arrive++
			continue
		}
		// rest is how much the arrival was rounded up, in parts of a tick.
		p, q := l[next-1], l[next]
		for rest -= q.A - p.A; rest < 0; arrive++ {
			rest += q.T - p.T
		}
		if t+1 == q.T && (arrive != q.A || rest != 0) {
			panic("the model is wrong")
		}
	}
	return result
}
