package drive_test

import (
	"slices"

	"lorry/api"
	"lorry/internal/sample"
)

// These are models of the functions, sentence by sentence: Best tries all lists of rests.

// goes returns the arrival and the miles of a way, and false if there is no arc.
func goes(x api.Instance, profile, from, to, t int) (int, int, bool) {
	if from == to {
		return t, 0, true
	}
	for _, a := range x.Net.Arcs {
		if a.From == from && a.To == to && a.Profile == profile {
			arrive := arrivalOf(a.Travel, t)
			for _, p := range a.Slow {
				if t >= p.T {
					arrive += p.A
				}
			}
			return arrive, a.Miles, true
		}
	}
	return 0, 0, false
}

// arrivalOf steps up to the first tick that is not before the line between two points.
func arrivalOf(l []api.Point, t int) int {
	for i, p := range l {
		last := i == len(l)-1
		if i == 0 && t <= p.T || last && t >= p.T {
			return t + p.A - p.T
		}
		if q := l[min(i+1, len(l)-1)]; p.T <= t && t < q.T {
			arrive := p.A
			for (arrive-p.A)*(q.T-p.T) < (t-p.T)*(q.A-p.A) {
				arrive++
			}
			return arrive
		}
	}
	panic("no travel function")
}

// stopsOf returns the stops of the visits of a route, and whether it is possible here.
func stopsOf(x api.Instance, r api.Route) ([]api.Stop, bool) {
	var stops []api.Stop
	for _, v := range r.Visits {
		if v.Order < 0 || v.Order >= len(x.Orders) {
			return nil, false
		}
		one := x.Orders[v.Order].Pick
		if v.Drop {
			one = x.Orders[v.Order].Drop
		}
		if one.Place < 0 {
			return nil, false
		}
		stops = append(stops, one)
	}
	ok := 0 <= r.Type && r.Type < len(x.Types) && 0 <= r.Start && r.Start <= 4096 && len(stops) <= 20
	return stops, ok
}

// drivenOf returns the driving time at an arrival.
func drivenOf(departs, arrives []int, given []bool, at int) int {
	sum := 0
	for i := at; i >= 0; i-- {
		sum += arrives[i] - departs[i]
		if given[i] {
			break
		}
	}
	return sum
}

// runOf returns a schedule and its driving times.
func runOf(x api.Instance, r api.Route, given []bool) (api.Sheet, []int, api.Errno) {
	stops, ok := stopsOf(x, r)
	if !ok || len(given) != len(r.Visits)+1 {
		return api.Sheet{}, nil, api.ErrArg
	}
	one := x.Types[r.Type]
	s := api.Sheet{Rest: given[0], Times: make([]api.Time, len(stops))}
	place, ready := one.From, max(one.Open, r.Start)
	var departs, arrives, driven []int
	for i := range len(stops) + 1 {
		if given[i] {
			ready += one.Rest
		}
		departs = append(departs, ready)
		to, last, late := one.To, one.Close, api.ErrClose
		if i < len(stops) {
			to, last, late = stops[i].Place, stops[i].Close, api.ErrWindow
		}
		arrive, miles, ok := goes(x, one.Profile, place, to, ready)
		if !ok {
			return api.Sheet{}, nil, api.ErrArc
		}
		arrives = append(arrives, arrive)
		driven = append(driven, drivenOf(departs, arrives, given, i))
		if arrive > last {
			return api.Sheet{}, nil, late
		}
		if driven[i] > one.Drive {
			return api.Sheet{}, nil, api.ErrRest
		}
		s.Miles += miles
		if i == len(stops) {
			break
		}
		begin := arrive
		if stops[i].Open > begin {
			begin = stops[i].Open
		}
		s.Times[i] = api.Time{Arrive: arrive, Begin: begin, Rest: given[i+1]}
		place, ready = to, begin+stops[i].Service
	}
	s.Depart, s.End = departs[0], arrives[len(stops)]
	for i := range s.Times {
		s.Times[i].Depart = departs[i+1]
	}
	return s, driven, api.OK
}

// allRests returns all lists of so many rests, in the order in which they are preferred.
func allRests(length int) [][]bool {
	if length == 0 {
		return [][]bool{nil}
	}
	var l [][]bool
	for _, rest := range []bool{false, true} {
		for _, others := range allRests(length - 1) {
			l = append(l, append([]bool{rest}, others...))
		}
	}
	return l
}

// following returns the lists of rests that follow a route that has not more rests than it may have.
func following(r api.Route) [][]bool {
	var l [][]bool
	for _, others := range allRests(len(r.Visits) + 1 - len(r.Rests)) {
		l = append(l, slices.Concat(r.Rests, others))
	}
	return l
}

// bestOf returns the best schedule. The first list of rests that follow the route has no others than those of the route.
func bestOf(x api.Instance, r api.Route) (api.Sheet, api.Errno) {
	if _, ok := stopsOf(x, r); !ok || len(r.Rests) > len(r.Visits)+1 {
		return api.Sheet{}, api.ErrArg
	}
	best, found, first := api.Sheet{}, false, api.OK
	for i, given := range following(r) {
		s, _, err := runOf(x, r, given)
		if i == 0 {
			first = err
		}
		if err == api.OK && (!found || s.End < best.End) {
			best, found = s, true
		}
	}
	if !found {
		return api.Sheet{}, first
	}
	return best, api.OK
}

// checkOf returns the driving times of a schedule if it is valid.
func checkOf(x api.Instance, r api.Route, s api.Sheet) ([]int, api.Errno) {
	if _, ok := stopsOf(x, r); !ok || len(r.Rests) > len(r.Visits)+1 || len(s.Times) != len(r.Visits) {
		return nil, api.ErrArg
	}
	given := []bool{s.Rest}
	for _, t := range s.Times {
		given = append(given, t.Rest)
	}
	for i, rest := range r.Rests {
		if given[i] != rest {
			return nil, api.ErrState
		}
	}
	want, driven, err := runOf(x, r, given)
	if err != api.OK {
		return nil, err
	}
	if sample.Show(want) != sample.Show(s) {
		return nil, api.ErrState
	}
	return driven, api.OK
}

// state is what matters for the rest of a route behind a stop.
type state struct{ done, since int }

// bestByStates returns the best rests, found by all states in which a vehicle can be, for routes with too many lists of rests; false without any.
func bestByStates(x api.Instance, r api.Route) ([]bool, bool) {
	one, stops := x.Types[r.Type], []api.Stop{{Place: x.Types[r.Type].From}}
	for _, v := range r.Visits {
		stop := x.Orders[v.Order].Pick
		if v.Drop {
			stop = x.Orders[v.Order].Drop
		}
		stops = append(stops, stop)
	}
	stops = append(stops, api.Stop{Place: one.To, Close: one.Close})
	states := map[state]string{{done: max(one.Open, r.Start)}: ""}
	for at, stop := range stops[1:] {
		next := map[state]string{}
		for now, text := range states {
			for i, with := range []state{now, {done: now.done + one.Rest}} {
				arrive, _, ok := goes(x, one.Profile, stops[at].Place, stop.Place, with.done)
				driven := with.since + arrive - with.done
				if !ok || at < len(r.Rests) && r.Rests[at] != (i == 1) || arrive > stop.Close || driven > one.Drive {
					continue
				}
				reached := state{max(arrive, stop.Open) + stop.Service, driven}
				longer := text + string("01"[i])
				if old, ok := next[reached]; !ok || longer < old {
					next[reached] = longer
				}
			}
		}
		states = next
	}
	best, end := "", 0
	for last, text := range states {
		if best == "" || last.done < end || last.done == end && text < best {
			best, end = text, last.done
		}
	}
	var l []bool
	for _, digit := range best {
		l = append(l, digit == '1')
	}
	return l, best != ""
}
