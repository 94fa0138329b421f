package drive

import "lorry/api"

// halt is a vehicle at a stop of its course whose service is done. What can follow depends on nothing else.
type halt struct{ at, done, since int }

// choice is the least end that can follow a halt, and whether the vehicle rests there for it. Free means that it does not rest later on either.
type choice struct {
	possible bool
	end      int
	rest     bool
	free     bool
}

// finder finds the least ends of a course whose first rests are fixed.
type finder struct {
	course *course
	fixed  []bool
	known  map[halt]choice
}

// find writes the rests with the least end behind the first ones, which are fixed, and reports whether there are any.
func (c *course) find(rests []bool, fixed int) bool {
	short := *c
	short.net.Arcs = c.arcs()
	f := finder{course: &short, fixed: rests[:fixed], known: map[halt]choice{}}
	now := halt{done: c.ready}
	if !f.best(now).possible {
		return false
	}
	for at := range rests {
		rests[at] = f.best(now).rest
		now, _ = f.next(now, rests[at])
	}
	return true
}

// arcs returns the arcs of a course alone, among which they are found much faster.
func (c *course) arcs() []api.Arc {
	var l []api.Arc
	for _, a := range c.net.Arcs {
		if a.Profile == c.vehicle.Profile && c.goes(a.From, a.To) {
			l = append(l, a)
		}
	}
	return l
}

// goes reports whether there is a way from a place to another one.
func (c *course) goes(from, to int) bool {
	for at := range c.ways() {
		if c.stops[at].Place == from && c.stops[at+1].Place == to {
			return true
		}
	}
	return false
}

// best returns what is best at a halt: the least end, and no rest if this does not end later.
func (f *finder) best(now halt) choice {
	if now.at == f.course.ways() {
		return choice{possible: true, end: now.done, free: true}
	}
	if known, ok := f.known[now]; ok {
		return known
	}
	var best choice
	for _, rest := range f.rests(now.at) {
		next, ok := f.next(now, rest)
		if !ok {
			continue
		}
		if c := f.best(next); c.possible && (!best.possible || c.end < best.end) {
			best = choice{possible: true, end: c.end, rest: rest, free: c.free && !rest}
		}
		if best.free {
			// A rest can end earlier only if it takes the place of a later one.
			break
		}
	}
	f.known[now] = best
	return best
}

// rests returns what is possible at a stop.
func (f *finder) rests(at int) []bool {
	if at < len(f.fixed) {
		return f.fixed[at : at+1]
	}
	return []bool{false, true}
}

func (f *finder) next(now halt, rest bool) (halt, bool) {
	one, err := f.course.next(now.at, now.done, now.since, rest)
	return halt{at: now.at + 1, done: one.done, since: one.since}, err == api.OK
}
