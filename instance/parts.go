package instance

import (
	"slices"

	"lorry/api"
	"lorry/sets"
)

// mustBeServed is the Penalty of an order that must be served.
const mustBeServed = -1

// setNumbers is how many numbers there are that can be in a set.
const setNumbers = 63

// faultsOf puts the word of a part of an instance before the paths of its faults.
func faultsOf(part string, faults []api.Fault) []api.Fault {
	for i, f := range faults {
		faults[i].At = part
		if f.At != "" {
			faults[i].At += " " + f.At
		}
	}
	return faults
}

func sameArc(a, b api.Arc) bool {
	return a.From == b.From && a.To == b.To && a.Profile == b.Profile && a.Miles == b.Miles &&
		slices.Equal(a.Travel, b.Travel) && slices.Equal(a.Slow, b.Slow)
}

// setOf returns the set of the orders that are meant; orders behind the last number of a set are in none.
func setOf(l []api.Order, isMeant func(o api.Order) bool) int {
	set := 0
	for i, o := range l[:min(len(l), setNumbers)] {
		if isMeant(o) {
			set |= 1 << i
		}
	}
	return set
}

// renumbered returns the pairs of which both orders are in a set, with the numbers that these have among the orders of the set.
func renumbered(pairs [][2]int, set int) [][2]int {
	var l [][2]int
	for _, p := range pairs {
		if sets.Has(set, p[0]) && sets.Has(set, p[1]) {
			l = append(l, [2]int{lesser(set, p[0]), lesser(set, p[1])})
		}
	}
	return l
}

// lesser returns how many numbers of a set are less than one of them.
func lesser(set, number int) int {
	return sets.Size(set & (1<<number - 1))
}

// copyOf returns an instance that shares no memory with the original.
func copyOf(x api.Instance) api.Instance {
	return api.Instance{
		Net:    copyOfNetwork(x.Net),
		Types:  copies(x.Types, copyOfType),
		Orders: copies(x.Orders, copyOfOrder),
		Apart:  slices.Clone(x.Apart),
		Before: slices.Clone(x.Before),
	}
}

func copyOfNetwork(n api.Network) api.Network {
	return api.Network{Places: slices.Clone(n.Places), Arcs: copies(n.Arcs, copyOfArc)}
}

func copyOfArc(a api.Arc) api.Arc {
	a.Travel = slices.Clone(a.Travel)
	a.Slow = slices.Clone(a.Slow)
	return a
}

func copyOfType(t api.Type) api.Type {
	t.Cap = slices.Clone(t.Cap)
	return t
}

func copyOfOrder(o api.Order) api.Order {
	o.Load = slices.Clone(o.Load)
	return o
}

// copies returns a list of copies.
func copies[E any](l []E, copyOfOne func(E) E) []E {
	result := make([]E, len(l))
	for i, one := range l {
		result[i] = copyOfOne(one)
	}
	return result
}
