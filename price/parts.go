package price

import "lorry/api"

// The parts of a score, in the order in which scores are compared: the digits of a price, the greatest first.
const (
	cost = iota
	moved
	other
	work
	count
)

// parts has a number for each part of a score.
type parts [count]int

func partsOf(s api.Score) parts {
	return parts{cost: s.Cost, moved: s.Moved, other: s.Other, work: s.Work}
}

func (p parts) score() api.Score {
	return api.Score{Cost: p[cost], Moved: p[moved], Other: p[other], Work: p[work]}
}

// sizes returns how many different numbers each part of a right score can have.
func sizes() parts {
	return parts{cost: 1<<30 + 1, moved: 16, other: 16, work: 65536}
}
