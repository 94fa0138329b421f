package sample

import (
	"math"
	"slices"
	"strconv"

	"lorry/api"
	"lorry/drive"
)

// Source draws numbers from 0 to n - 1.
type Source interface{ Intn(n int) int }

// OneOf draws an element of a list.
func OneOf[T any](r Source, l ...T) T { return l[r.Intn(len(l))] }

// Ints returns ints of all sizes.
func Ints() []int {
	return []int{math.MinInt, math.MinInt + 1, -1 << 32, -64, -2, -1, 0, 1, 2, 3, 7, 9, 10, 11, 20, 21, 63, 64, 100, 4095, 4096, 4097, 8192, 1 << 20, 1 << 30, 1 << 32, 1<<32 + 1, 1 << 62, math.MaxInt - 1, math.MaxInt}
}

// Draw returns a valid instance. Its ways take up to about so many ticks.
func Draw(r Source, size, orders int) api.Instance {
	x := api.Instance{Net: api.Network{Places: places()[:2+r.Intn(4)]}}
	count := len(x.Net.Places)
	x.Net.Arcs = drawArcs(r, count, size)
	for i := range 1 + r.Intn(3) {
		one := api.Type{Name: "van" + strconv.Itoa(i), Count: 1, Cap: []int{1}, From: r.Intn(count), To: r.Intn(count), Profile: OneOf(r, 0, 0, 0, 1, 1, 1, 2)}
		one.Open = OneOf(r, 0, r.Intn(size))
		one.Close = min(one.Open+OneOf(r, 3, 9, 30, 99, 99)*size, api.MaxTime)
		one.Drive = min(1+OneOf(r, 1, 1, 2, 2, 4, 9)*size+r.Intn(size), api.MaxTime)
		one.Rest = OneOf(r, 0, 1, r.Intn(size), r.Intn(size))
		x.Types = append(x.Types, one)
	}
	for i := range orders {
		o := api.Order{Name: "o" + strconv.Itoa(i), Load: []int{1}, Penalty: -1, Split: 1, Last: -1, Now: -1, Off: r.Intn(9) == 0}
		o.Pick, o.Drop = drawStop(r, count, size), drawStop(r, count, size)
		switch r.Intn(4) {
		case 0:
			o.Pick = api.Stop{Place: -1}
		case 1:
			o.Drop = api.Stop{Place: -1}
		}
		x.Orders = append(x.Orders, o)
	}
	return x
}

// drawArcs returns arcs between most places, in any order.
func drawArcs(r Source, places, size int) []api.Arc {
	var l []api.Arc
	likely := OneOf(r, 100, 100, 95, 50)
	for from := range places {
		for to := range places {
			for profile := range 2 {
				if from != to && r.Intn(100) < likely {
					l = append(l, api.Arc{From: from, To: to, Profile: profile, Miles: r.Intn(9), Travel: DrawTravel(r, size), Slow: drawSlow(r, size)})
				}
			}
		}
	}
	for i := len(l) - 1; i > 0; i-- {
		k := r.Intn(i + 1)
		l[i], l[k] = l[k], l[i]
	}
	return l
}

// DrawTravel returns a travel function: constant, with falling travel times, or with any ones.
func DrawTravel(r Source, size int) []api.Point {
	l := []api.Point{{T: r.Intn(size), A: 0}}
	l[0].A = l[0].T + r.Intn(size)
	for range OneOf(r, 0, 0, 1, 3, r.Intn(api.MaxPoints)) {
		p := l[len(l)-1]
		p.T += 1 + r.Intn(size)
		p.A = max(p.A+OneOf(r, 0, 0, 1, r.Intn(2*size)), p.T)
		if p.T <= api.MaxTime && p.A <= p.T+api.MaxTime {
			l = append(l, p)
		}
	}
	return l
}

func drawSlow(r Source, size int) []api.Point {
	var l []api.Point
	t := -1
	for range OneOf(r, 0, 0, 0, 1, r.Intn(api.MaxPoints)) {
		if t += 1 + r.Intn(2*size); t <= api.MaxTime {
			l = append(l, api.Point{T: t, A: OneOf(r, 0, 1, r.Intn(size))})
		}
	}
	return l
}

func drawStop(r Source, places, size int) api.Stop {
	open := min(OneOf(r, 0, r.Intn(2*size), r.Intn(5*size)), api.MaxTime)
	last := min(open+OneOf(r, 0, 1, 4, 9, 30, 99, 99)*size, api.MaxTime)
	return api.Stop{Place: r.Intn(places), Open: open, Close: last, Service: OneOf(r, 0, 0, r.Intn(size))}
}

// DrawRoute returns a route that is possible here, with so many visits.
func DrawRoute(r Source, x api.Instance, count, size int) api.Route {
	one := api.Route{Type: r.Intn(len(x.Types)), Start: OneOf(r, 0, 0, r.Intn(size), r.Intn(4*size)%(api.MaxTime+1))}
	for range count {
		number := r.Intn(len(x.Orders))
		drop := r.Intn(2) == 0
		if x.Orders[number].Pick.Place < 0 || x.Orders[number].Drop.Place < 0 {
			drop = x.Orders[number].Pick.Place < 0
		}
		one.Visits = append(one.Visits, api.Visit{Order: number, Drop: drop})
	}
	return one
}

// DrawRests returns a list of rests of this length.
func DrawRests(r Source, count int) []bool {
	l := make([]bool, count)
	for i := range l {
		l[i] = r.Intn(3) == 0
	}
	return l
}

// Damage returns a route that is not possible here.
func Damage(r Source, x api.Instance, one api.Route) api.Route {
	switch r.Intn(4) {
	case 0:
		one.Type = OneOf(r, -1, len(x.Types))
	case 1:
		one.Start = OneOf(r, -1, api.MaxTime+1)
	case 2:
		one.Visits = append(one.Visits[:len(one.Visits):len(one.Visits)], api.Visit{Order: OneOf(r, -1, len(x.Orders))})
	case 3:
		one.Rests = DrawRests(r, len(one.Visits)+2)
	}
	return one
}

// Tire gives the type of a route a Drive with which it needs rests, if it has a schedule otherwise: about so much as the longest way takes, or some more.
func Tire(r Source, x *api.Instance, one api.Route) {
	vehicle := &x.Types[one.Type]
	old := vehicle.Drive
	vehicle.Drive = api.MaxTime
	all := slices.Repeat([]bool{true}, len(one.Visits)+1)
	one.Rests = all
	s, err := drive.Run(*x, one, all)
	driven, _ := drive.Since(*x, one, s)
	if err != api.OK {
		vehicle.Drive = old
		return
	}
	longest := slices.Max(driven)
	vehicle.Drive = max(1, min(longest+OneOf(r, -1, 0, 0, 1, r.Intn(longest+1), r.Intn(2*longest+1)), api.MaxTime))
}
