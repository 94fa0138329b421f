package sequence

import (
	"slices"

	"lorry/api"
	"lorry/order"
)

// tour has, for each order, the positions of its pickup and of its delivery among the visits of a route, from 1 on; 0 is none.
type tour []struct{ pick, drop int }

// tourOf returns the positions of visits, all of which are of one of so many orders, and whether one of them occurs twice.
func tourOf(orders int, l []api.Visit) (tour, bool) {
	t := make(tour, orders)
	for i, v := range l {
		position := t.position(v)
		if *position > 0 {
			return nil, true
		}
		*position = i + 1
	}
	return t, false
}

// position returns where the position of a visit is kept.
func (t tour) position(v api.Visit) *int {
	if v.Drop {
		return &t[v.Order].drop
	}
	return &t[v.Order].pick
}

// isPaired reports whether the visits of a route are just those of their orders, each pickup before its delivery.
func (t tour) isPaired(orders []api.Order, l []api.Visit) bool {
	for _, v := range l {
		own := order.Visits(orders, v.Order)
		if !slices.Contains(own, v) || !t.inTurn(own) {
			return false
		}
	}
	return true
}

// inTurn reports whether all visits of a list are there, one after another.
func (t tour) inTurn(l []api.Visit) bool {
	last := 0
	for _, v := range l {
		position := *t.position(v)
		if position <= last {
			return false
		}
		last = position
	}
	return true
}

// hasPair reports whether both orders of a pair are there.
func (t tour) hasPair(pairs [][2]int) bool {
	for _, p := range pairs {
		if t.has(p[0]) && t.has(p[1]) {
			return true
		}
	}
	return false
}

// follows reports whether, of each pair whose second order is there, all visits of the first one come before those of the second one.
func (t tour) follows(orders []api.Order, before [][2]int) bool {
	for _, p := range before {
		if t.has(p[1]) && !t.inTurn(append(order.Visits(orders, p[0]), order.Visits(orders, p[1])...)) {
			return false
		}
	}
	return true
}

// has reports whether a visit of an order is there.
func (t tour) has(number int) bool {
	return 0 <= number && number < len(t) && (t[number].pick > 0 || t[number].drop > 0)
}

func allExist(orders []api.Order, l []api.Visit) bool {
	return !slices.ContainsFunc(l, func(v api.Visit) bool { return v.Order < 0 || v.Order >= len(orders) })
}

// hasCancelled reports whether one of the visits, whose orders exist, is one of a cancelled order.
func hasCancelled(orders []api.Order, l []api.Visit) bool {
	return slices.ContainsFunc(l, func(v api.Visit) bool { return orders[v.Order].Off })
}
