package slack_test

import (
	"lorry/api"
	"lorry/drive"
	"lorry/network"
)

// These are models of the functions, sentence by sentence: the slack is found by trying all delays.

// stopsOf returns the stops of the visits, and the end.
func stopsOf(x api.Instance, r api.Route) []api.Stop {
	var l []api.Stop
	for _, v := range r.Visits {
		one := x.Orders[v.Order].Pick
		if v.Drop {
			one = x.Orders[v.Order].Drop
		}
		l = append(l, one)
	}
	return append(l, api.Stop{Place: x.Types[r.Type].To, Close: x.Types[r.Type].Close})
}

// drivenOf returns the sum of all arrivals minus the departures before them since the last rest.
func drivenOf(s api.Sheet, at int) int {
	arrivals, sum := arrivalsOf(s), 0
	for i := at; i >= 0; i-- {
		depart, rest := s.Depart, s.Rest
		if i > 0 {
			depart, rest = s.Times[i-1].Depart, s.Times[i-1].Rest
		}
		sum += arrivals[i] - depart
		if rest {
			break
		}
	}
	return sum
}

// delayed returns the schedule with a delay, for a valid schedule.
func delayed(x api.Instance, r api.Route, s api.Sheet, at, late int) (api.Sheet, api.Errno) {
	stops, one := stopsOf(x, r), x.Types[r.Type]
	d := api.Sheet{Rest: s.Rest, Depart: s.Depart, Times: append([]api.Time{}, s.Times...), Miles: s.Miles}
	arrive := arrivalsOf(s)[at] + late
	for i := at; i < len(s.Times); i++ {
		d.Times[i] = api.Time{Arrive: arrive, Begin: max(arrive, stops[i].Open), Rest: s.Times[i].Rest}
		if d.Times[i].Begin > stops[i].Close {
			return api.Sheet{}, api.ErrWindow
		}
		if drivenOf(d, i) > one.Drive {
			return api.Sheet{}, api.ErrRest
		}
		d.Times[i].Depart = d.Times[i].Begin + stops[i].Service
		if d.Times[i].Rest {
			d.Times[i].Depart += one.Rest
		}
		arrive, _, _ = network.Go(x.Net, one.Profile, stops[i].Place, stops[i+1].Place, d.Times[i].Depart)
	}
	if d.End = arrive; d.End > one.Close {
		return api.Sheet{}, api.ErrClose
	}
	if drivenOf(d, len(s.Times)) > one.Drive {
		return api.Sheet{}, api.ErrRest
	}
	return d, api.OK
}

// afterOf is a model of After.
func afterOf(a trip, at, late int) (api.Sheet, api.Errno) {
	if err := drive.Valid(a.x, a.r, a.s); err != api.OK {
		return api.Sheet{}, err
	}
	if at < 0 || at > len(a.r.Visits) || late < 0 || late > 4096 {
		return api.Sheet{}, api.ErrArg
	}
	return delayed(a.x, a.r, a.s, at, late)
}

// slackOf is a model of Slack. It has the error that follows the slack, too.
func slackOf(a trip) ([]int, []api.Errno, api.Errno) {
	if err := drive.Valid(a.x, a.r, a.s); err != api.OK {
		return nil, nil, err
	}
	l := make([]int, len(a.s.Times)+1)
	limits := make([]api.Errno, len(l))
	for at := range l {
		for limits[at] == api.OK {
			l[at]++
			_, limits[at] = delayed(a.x, a.r, a.s, at, l[at])
		}
		l[at]--
	}
	return l, limits, api.OK
}
