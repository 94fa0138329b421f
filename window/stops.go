package window

import "lorry/api"

// noPlace is the Place of a stop that is none.
const noPlace = -1

// isNone reports whether a stop is none, and thus has no window either.
func isNone(s api.Stop) bool {
	return s == api.Stop{Place: noPlace}
}

// isAtPlace reports whether a stop has a place, a window and a service within the limits.
func isAtPlace(s api.Stop) bool {
	return s.Place >= 0 && isTick(s.Open) && s.Open <= s.Close && isTick(s.Close) && isTick(s.Service)
}

func isTick(t int) bool {
	return 0 <= t && t <= api.MaxTime
}
