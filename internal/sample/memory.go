package sample

import (
	"slices"

	"lorry/api"
)

// Longer returns a list that is followed by another element in its memory, and this memory.
func Longer[T any](l []T, behind T) ([]T, []T) {
	whole := append(slices.Clone(l), behind)
	return whole[:len(l)], whole
}

// Memory is the memory of the lists of an instance and of a route, which goes on behind them.
type Memory struct {
	Arcs   []api.Arc
	Points [][]api.Point
	Types  []api.Type
	Orders []api.Order
	Rests  []bool
	Visits []api.Visit
}

// Lengthen gives an instance and a route lists that are followed by other elements in their memory.
func Lengthen(x *api.Instance, one *api.Route) Memory {
	var m Memory
	x.Net.Arcs, m.Arcs = Longer(x.Net.Arcs, api.Arc{From: 71})
	for i := range x.Net.Arcs {
		a := &x.Net.Arcs[i]
		travel, whole := Longer(a.Travel, api.Point{T: 72})
		slow, all := Longer(a.Slow, api.Point{T: 73})
		a.Travel, a.Slow = travel, slow
		m.Points = append(m.Points, whole, all)
	}
	x.Types, m.Types = Longer(x.Types, api.Type{From: 74})
	x.Orders, m.Orders = Longer(x.Orders, api.Order{Skills: 75})
	one.Rests, m.Rests = Longer(one.Rests, true)
	one.Visits, m.Visits = Longer(one.Visits, api.Visit{Order: 76})
	return m
}

// Clear overwrites the memory.
func (m Memory) Clear() {
	for _, l := range m.Points {
		clear(l)
	}
	clear(m.Arcs)
	clear(m.Types)
	clear(m.Orders)
	clear(m.Rests)
	clear(m.Visits)
}

// Spoil replaces some numbers of an instance and of a route by ones that no valid instance and no possible route have.
func Spoil(r Source, x *api.Instance, one *api.Route) {
	wrong := func(numbers ...*int) {
		for _, n := range numbers {
			if r.Intn(6) == 0 {
				*n = OneOf(r, Ints()...)
			}
		}
	}
	for i := range x.Types {
		v := &x.Types[i]
		wrong(&v.From, &v.To, &v.Profile, &v.Open, &v.Close, &v.Drive, &v.Rest)
	}
	for i := range x.Orders {
		for _, s := range []*api.Stop{&x.Orders[i].Pick, &x.Orders[i].Drop} {
			wrong(&s.Place, &s.Open, &s.Close, &s.Service)
		}
	}
	for i := range x.Net.Arcs {
		a := &x.Net.Arcs[i]
		wrong(&a.From, &a.To, &a.Profile, &a.Miles)
		for _, l := range [][]api.Point{a.Travel, a.Slow} {
			for k := range l {
				wrong(&l[k].T, &l[k].A)
			}
		}
		a.Travel = a.Travel[r.Intn(2)*r.Intn(len(a.Travel)):]
	}
	wrong(&one.Type, &one.Start)
}
