package travel

import "lorry/api"

// isTravel reports whether a list is a travel function.
func isTravel(l []api.Point) bool {
	// A list that is too long can have any number of faults, none of which would be looked at.
	return len(l) <= api.MaxPoints && len(Check(l)) == 0
}

func isTick(t int) bool {
	return 0 <= t && t <= api.MaxTime
}

func isPoint(p api.Point) bool {
	return isTick(p.T) && p.A >= p.T && !isTooLong(p)
}

func isTooLong(p api.Point) bool {
	return p.A > p.T+api.MaxTime
}

// isBefore reports whether q can be the point after p.
func isBefore(p, q api.Point) bool {
	return p.T < q.T && p.A <= q.A
}

// arrival returns the arrival of a travel function for a departure from 0 on.
func arrival(l []api.Point, t int) int {
	behind := 0
	for behind < len(l) && l[behind].T <= t {
		behind++
	}
	switch behind {
	case 0:
		return t + (l[0].A - l[0].T)
	case len(l):
		return t + (l[behind-1].A - l[behind-1].T)
	}
	return between(l[behind-1], l[behind], t)
}

// between returns the arrival for a departure at p or later, and before q.
func between(p, q api.Point, t int) int {
	return p.A + quotientUp((t-p.T)*(q.A-p.A), q.T-p.T)
}

// quotientUp divides a number of at least 0 by a positive one, rounded up.
func quotientUp(x, y int) int {
	return (x + y - 1) / y
}

// delayed returns the points of a travel function with n ticks more for departures from a tick on.
func delayed(l []api.Point, from, n int) []api.Point {
	var result []api.Point
	for _, p := range l {
		if p.T < from-1 {
			result = append(result, p)
		}
	}
	if from > 0 {
		result = append(result, api.Point{T: from - 1, A: arrival(l, from-1)})
	}
	result = append(result, api.Point{T: from, A: arrival(l, from) + n})
	for _, p := range l {
		if p.T > from {
			result = append(result, api.Point{T: p.T, A: p.A + n})
		}
	}
	return result
}
