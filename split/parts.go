package split

import (
	"slices"
	"strconv"

	"lorry/api"
)

// mustBeServed is the Penalty of an order that must be served, and of each part of it.
const mustBeServed = -1

// part returns the part with an index, from 0 on, of a number that is divided; the greater parts come first.
func part(whole, parts, index int) int {
	if index < whole%parts {
		return whole/parts + 1
	}
	return whole / parts
}

// haveRoom reports whether the parts of orders are not more than an instance can have.
func haveRoom(l []api.Order) bool {
	room := api.MaxOrders
	for _, o := range l {
		// The room is compared, because the sum of any numbers may not fit into an int.
		if max(1, o.Split) > room {
			return false
		}
		room -= max(1, o.Split)
	}
	return true
}

// expandOrders returns the orders of the expanded instance, and their origin.
func expandOrders(l []api.Order) ([]api.Order, []int, api.Errno) {
	taken := make(map[string]bool, len(l))
	for _, o := range l {
		taken[o.Name] = true
	}
	var orders []api.Order
	var origin []int
	for i, o := range l {
		parts, err := divide(o, taken)
		if err != api.OK {
			return nil, nil, err
		}
		orders = append(orders, parts...)
		origin = append(origin, slices.Repeat([]int{i}, len(parts))...)
	}
	return orders, origin, api.OK
}

// divide returns the orders that stand in the place of an order, and takes their names.
func divide(o api.Order, taken map[string]bool) ([]api.Order, api.Errno) {
	if o.Split <= 1 {
		o.Load = slices.Clone(o.Load)
		return []api.Order{o}, api.OK
	}
	l, err := Loads(o.Load, o.Split)
	if err != api.OK {
		return nil, err
	}
	parts := make([]api.Order, len(l))
	for k, load := range l {
		name, err := take(o.Name+"_"+strconv.Itoa(k+1), taken)
		if err != api.OK {
			return nil, err
		}
		parts[k] = o
		parts[k].Name, parts[k].Load, parts[k].Split = name, load, 1
		if o.Penalty != mustBeServed {
			parts[k].Penalty = part(o.Penalty, o.Split, k)
		}
	}
	return parts, api.OK
}

// take takes a name for a part, unless it is too long or taken.
func take(name string, taken map[string]bool) (string, api.Errno) {
	switch {
	case len(name) > api.MaxName:
		return "", api.ErrName
	case taken[name]:
		return "", api.ErrTwice
	}
	taken[name] = true
	return name, api.OK
}

// expandPairs returns all pairs of a part of the first order and a part of the second one; of too many pairs it returns some, but still too many.
func expandPairs(pairs [][2]int, origin []int) [][2]int {
	var l [][2]int
	for _, p := range pairs {
		for a, first := range origin {
			for b, second := range origin {
				if first == p[0] && second == p[1] {
					l = append(l, [2]int{a, b})
				}
			}
		}
		if len(l) > api.MaxPairs {
			break
		}
	}
	return l
}
