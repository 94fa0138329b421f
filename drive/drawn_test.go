package drive_test

import (
	"fmt"
	"math/rand"
	"slices"

	"lorry/api"
)

func oneOf[T any](r *rand.Rand, l ...T) T { return l[r.Intn(len(l))] }

// drawnTravel returns a travel function: constant, with falling travel times, or with any ones.
func drawnTravel(r *rand.Rand, size int) []api.Point {
	l := []api.Point{{T: r.Intn(size), A: 0}}
	l[0].A = l[0].T + r.Intn(size)
	for range oneOf(r, 0, 0, 1, 3, r.Intn(api.MaxPoints)) {
		p := l[len(l)-1]
		p.T += 1 + r.Intn(size)
		p.A = max(p.A+oneOf(r, 0, 0, 1, r.Intn(2*size)), p.T)
		if p.T <= api.MaxTime && p.A <= p.T+api.MaxTime {
			l = append(l, p)
		}
	}
	return l
}

func drawnSlow(r *rand.Rand, size int) []api.Point {
	var l []api.Point
	t := -1
	for range oneOf(r, 0, 0, 0, 1, r.Intn(api.MaxPoints)) {
		if t += 1 + r.Intn(2*size); t <= api.MaxTime {
			l = append(l, api.Point{T: t, A: oneOf(r, 0, 1, r.Intn(size))})
		}
	}
	return l
}

// drawn returns a valid instance. Its ways take up to about so many ticks.
func drawn(r *rand.Rand, size, orders int) api.Instance {
	x := api.Instance{Net: api.Network{Places: []string{"hub", "mill", "dock", "farm", "port"}[:2+r.Intn(4)]}}
	places, likely := len(x.Net.Places), oneOf(r, 100, 100, 95, 50)
	for from := range places {
		for to := range places {
			for profile := range 2 {
				if from != to && r.Intn(100) < likely {
					x.Net.Arcs = append(x.Net.Arcs, api.Arc{From: from, To: to, Profile: profile, Miles: r.Intn(9), Travel: drawnTravel(r, size), Slow: drawnSlow(r, size)})
				}
			}
		}
	}
	r.Shuffle(len(x.Net.Arcs), func(i, k int) { x.Net.Arcs[i], x.Net.Arcs[k] = x.Net.Arcs[k], x.Net.Arcs[i] })
	for i := range 1 + r.Intn(3) {
		one := api.Type{Name: fmt.Sprint("van", i), Count: 1, Cap: []int{1}, From: r.Intn(places), To: r.Intn(places), Profile: oneOf(r, 0, 0, 0, 1, 1, 1, 2)}
		one.Open = oneOf(r, 0, r.Intn(size))
		one.Close = min(one.Open+oneOf(r, 3, 9, 30, 99, 99)*size, api.MaxTime)
		one.Drive = min(1+oneOf(r, 1, 1, 2, 2, 4, 9)*size+r.Intn(size), api.MaxTime)
		one.Rest = oneOf(r, 0, 1, r.Intn(size), r.Intn(size))
		x.Types = append(x.Types, one)
	}
	for i := range orders {
		o := api.Order{Name: fmt.Sprint("o", i), Load: []int{1}, Penalty: -1, Split: 1, Last: -1, Now: -1, Off: r.Intn(9) == 0}
		o.Pick, o.Drop = drawnStop(r, places, size), drawnStop(r, places, size)
		switch r.Intn(4) {
		case 0:
			o.Pick = api.Stop{Place: -1}
		case 1:
			o.Drop = api.Stop{Place: -1}
		}
		x.Orders = append(x.Orders, o)
	}
	return x
}

func drawnStop(r *rand.Rand, places, size int) api.Stop {
	open := min(oneOf(r, 0, r.Intn(2*size), r.Intn(5*size)), api.MaxTime)
	last := min(open+oneOf(r, 0, 1, 4, 9, 30, 99, 99)*size, api.MaxTime)
	return api.Stop{Place: r.Intn(places), Open: open, Close: last, Service: oneOf(r, 0, 0, r.Intn(size))}
}

// drawnRoute returns a route that is possible here, with so many visits.
func drawnRoute(r *rand.Rand, x api.Instance, count, size int) api.Route {
	one := api.Route{Type: r.Intn(len(x.Types)), Start: oneOf(r, 0, 0, r.Intn(size), r.Intn(4*size)%(api.MaxTime+1))}
	for range count {
		number := r.Intn(len(x.Orders))
		drop := r.Intn(2) == 0
		if x.Orders[number].Pick.Place < 0 || x.Orders[number].Drop.Place < 0 {
			drop = x.Orders[number].Pick.Place < 0
		}
		one.Visits = append(one.Visits, api.Visit{Order: number, Drop: drop})
	}
	return one
}

func drawnRests(r *rand.Rand, count int) []bool {
	l := make([]bool, count)
	for i := range l {
		l[i] = r.Intn(3) == 0
	}
	return l
}

// damage changes a route so that it is not possible here.
func damage(r *rand.Rand, x api.Instance, one api.Route) api.Route {
	switch r.Intn(4) {
	case 0:
		one.Type = oneOf(r, -1, len(x.Types))
	case 1:
		one.Start = oneOf(r, -1, api.MaxTime+1)
	case 2:
		one.Visits = append(one.Visits[:len(one.Visits):len(one.Visits)], api.Visit{Order: oneOf(r, -1, len(x.Orders))})
	case 3:
		one.Rests = drawnRests(r, len(one.Visits)+2)
	}
	return one
}

// tire gives the type of a route a Drive with which it needs rests, if it has a schedule otherwise: about so much as the longest way takes, or some more.
func tire(r *rand.Rand, x *api.Instance, one api.Route) {
	if one.Type < 0 || one.Type >= len(x.Types) {
		return
	}
	vehicle := &x.Types[one.Type]
	old := vehicle.Drive
	vehicle.Drive = api.MaxTime
	_, driven, err := runOf(*x, one, slices.Repeat([]bool{true}, len(one.Visits)+1))
	if err != api.OK {
		vehicle.Drive = old
		return
	}
	longest := slices.Max(driven)
	vehicle.Drive = max(1, min(longest+oneOf(r, -1, 0, 0, 1, r.Intn(longest+1), r.Intn(2*longest+1)), api.MaxTime))
}
