package slack

import (
	"slices"

	"lorry/api"
	"lorry/drive"
	"lorry/network"
	"lorry/window"
)

// course is a route with its schedule. Its stops are those of the visits and the end; since has the driving times at the arrivals there.
type course struct {
	net     api.Network
	vehicle api.Type
	sheet   api.Sheet
	stops   []api.Stop
	since   []int
}

// courseOf returns the course of a valid schedule; the errors are those of drive.Valid.
func courseOf(x api.Instance, r api.Route, s api.Sheet) (*course, api.Errno) {
	since, err := drive.Since(x, r, s)
	if err != api.OK {
		return nil, err
	}
	one := x.Types[r.Type]
	stops := make([]api.Stop, 0, len(since))
	for _, v := range r.Visits {
		stops = append(stops, stopOf(x.Orders[v.Order], v.Drop))
	}
	stops = append(stops, api.Stop{Place: one.To, Close: one.Close})
	return &course{net: x.Net, vehicle: one, sheet: s, stops: stops, since: since}, api.OK
}

func stopOf(o api.Order, drop bool) api.Stop {
	if drop {
		return o.Drop
	}
	return o.Pick
}

// end returns the number of the end, which is that of visits.
func (c *course) end() int { return len(c.stops) - 1 }

func (c *course) arrival(at int) int {
	if at == c.end() {
		return c.sheet.End
	}
	return c.sheet.Times[at].Arrive
}

// begin returns when the service begins for an arrival, with the driving time since the last rest.
func (c *course) begin(at, arrive, since int) (int, api.Errno) {
	begin, err := window.Begin(c.stops[at], arrive)
	if err != api.OK {
		return 0, c.missed(at)
	}
	if since > c.vehicle.Drive {
		return 0, api.ErrRest
	}
	return begin, api.OK
}

// missed returns the error for who arrives too late.
func (c *course) missed(at int) api.Errno {
	if at == c.end() {
		return api.ErrClose
	}
	return api.ErrWindow
}

// next returns the departure from a visit where the service begins at a tick, and the arrival at the next stop. There is an arc, since the schedule has the same way.
func (c *course) next(at, begin int) (depart, arrive int) {
	depart = begin + c.stops[at].Service
	if c.sheet.Times[at].Rest {
		depart += c.vehicle.Rest
	}
	arrive, _, _ = network.Go(c.net, c.vehicle.Profile, c.stops[at].Place, c.stops[at+1].Place, depart)
	return depart, arrive
}

// after returns the schedule with a delay.
func (c *course) after(at, late int) (api.Sheet, api.Errno) {
	s := c.sheet
	s.Times = slices.Clone(s.Times)
	arrive, since := c.arrival(at)+late, c.since[at]+late
	for ; at < c.end(); at++ {
		begin, err := c.begin(at, arrive, since)
		if err != api.OK {
			return api.Sheet{}, err
		}
		one := &s.Times[at]
		one.Arrive, one.Begin = arrive, begin
		one.Depart, arrive = c.next(at, begin)
		if one.Rest {
			since = 0
		}
		since += arrive - one.Depart
	}
	s.End = arrive
	if _, err := c.begin(at, arrive, since); err != api.OK {
		return api.Sheet{}, err
	}
	return s, api.OK
}
