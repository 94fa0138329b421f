package slack

import (
	"lorry/api"
	"lorry/window"
)

const (
	// none is less than every driving time.
	none = -1
	// farthest is a delay beyond all ticks of valid instances; it keeps calls for other ones short.
	farthest = 4 * api.MaxTime
)

// slacks returns the slack of each visit, and of the end. Because travel times can fall, a greater delay can be possible where a lesser one is not: so all arrivals at a stop are looked at, once for all earlier stops, to find with how much driving time before them they are possible.
func (c *course) slacks() []int {
	l := make([]int, len(c.stops))
	var later []int
	for at := c.end(); at >= 0; at-- {
		later = c.mosts(at, later)
		for l[at]+1 < len(later) && c.since[at]+l[at]+1 <= later[l[at]+1] {
			l[at]++
		}
	}
	return l
}

// mosts returns for each arrival at a stop, from that of the schedule to its last possible one, the most driving time since the last rest with which no rule is violated there or later; none, if there is no such. It is given those of the next stop.
func (c *course) mosts(at int, later []int) []int {
	var l []int
	for late := range farthest {
		begin, err := window.Begin(c.stops[at], c.arrival(at)+late)
		if err != api.OK {
			break
		}
		l = append(l, c.most(at, begin, later))
	}
	return l
}

func (c *course) most(at, begin int, later []int) int {
	if at == c.end() {
		return c.vehicle.Drive
	}
	depart, arrive := c.next(at, begin)
	late := arrive - c.arrival(at+1)
	if late < 0 || late >= len(later) {
		return none
	}
	most := later[late] - (arrive - depart)
	if !c.sheet.Times[at].Rest {
		return most
	}
	if most < 0 {
		return none
	}
	return c.vehicle.Drive
}
