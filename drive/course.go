package drive

import (
	"lorry/api"
	"lorry/network"
	"lorry/order"
	"lorry/window"
)

// course is what a route asks of its vehicle. Its stops are the beginning, the visits and the end.
type course struct {
	net     api.Network
	vehicle api.Type
	ready   int
	stops   []api.Stop
}

// leg is a way from one stop to the next one, and the service there. Since is the driving time since the last rest.
type leg struct{ depart, arrive, begin, done, since, miles int }

// courseOf returns the course of a route, and whether the route is possible here.
func courseOf(x api.Instance, r api.Route) (*course, bool) {
	if r.Type < 0 || r.Type >= len(x.Types) || r.Start < 0 || r.Start > api.MaxTime || len(r.Visits) > 2*api.MaxOrders {
		return nil, false
	}
	one := x.Types[r.Type]
	stops := make([]api.Stop, 0, len(r.Visits)+2)
	stops = append(stops, api.Stop{Place: one.From})
	for _, v := range r.Visits {
		stop, err := order.Stop(x.Orders, v)
		if err != api.OK {
			return nil, false
		}
		stops = append(stops, stop)
	}
	stops = append(stops, api.Stop{Place: one.To, Close: one.Close})
	return &course{net: x.Net, vehicle: one, ready: max(one.Open, r.Start), stops: stops}, true
}

// ways returns how many ways there are, and so how many rests are possible.
func (c *course) ways() int { return len(c.stops) - 1 }

// next returns the way from a stop, whose service is done at a tick, to the next one.
func (c *course) next(at, done, since int, rest bool) (leg, api.Errno) {
	if rest {
		done, since = done+c.vehicle.Rest, 0
	}
	stop := c.stops[at+1]
	arrive, miles, err := network.Go(c.net, c.vehicle.Profile, c.stops[at].Place, stop.Place, done)
	if err != api.OK {
		return leg{}, api.ErrArc
	}
	since += arrive - done
	begin, err := window.Begin(stop, arrive)
	if err != api.OK {
		return leg{}, c.late(at + 1)
	}
	if since > c.vehicle.Drive {
		return leg{}, api.ErrRest
	}
	return leg{depart: done, arrive: arrive, begin: begin, done: begin + stop.Service, since: since, miles: miles}, api.OK
}

// late returns the error for who arrives too late at a stop.
func (c *course) late(at int) api.Errno {
	if at == c.ways() {
		return api.ErrClose
	}
	return api.ErrWindow
}

// run returns the ways with given rests.
func (c *course) run(rests []bool) ([]leg, api.Errno) {
	legs := make([]leg, 0, len(rests))
	done, since := c.ready, 0
	for at, rest := range rests {
		one, err := c.next(at, done, since, rest)
		if err != api.OK {
			return nil, err
		}
		legs = append(legs, one)
		done, since = one.done, one.since
	}
	return legs, api.OK
}
