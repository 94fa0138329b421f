package split

import (
	"lorry/api"
	"lorry/loads"
	"lorry/order"
)

// visited returns the set of the orders that a route visits.
func visited(r api.Route, orders int) (int, api.Errno) {
	set := 0
	for _, v := range r.Visits {
		if !isNumber(v.Order, orders) {
			return 0, api.ErrArg
		}
		set |= 1 << v.Order
	}
	return set, api.OK
}

// shares returns the orders that a set of orders of the expanded instance are parts of, with the sums of their loads.
func shares(whole, expanded []api.Order, origin []int, set int) ([]Share, api.Errno) {
	var l []Share
	for i, o := range whole {
		parts := set & partsOf(origin, i)
		if parts == 0 {
			continue
		}
		load, err := order.Load(expanded, parts, len(o.Load))
		if err != api.OK {
			return nil, err
		}
		l = append(l, Share{Order: i, Load: load})
	}
	return l, api.OK
}

// partsOf returns the set of the parts of an order.
func partsOf(origin []int, number int) int {
	set := 0
	for i, whole := range origin {
		if whole == number {
			set |= 1 << i
		}
	}
	return set
}

// gather returns the loads of the shares of each order.
func gather(orders []api.Order, l [][]Share) ([][][]int, api.Errno) {
	served := make([][][]int, len(orders))
	for _, route := range l {
		for _, s := range route {
			if !isNumber(s.Order, len(orders)) || !loads.Right(s.Load, len(orders[s.Order].Load)) {
				return nil, api.ErrArg
			}
			served[s.Order] = append(served[s.Order], s.Load)
		}
	}
	return served, api.OK
}

// checkSum compares the sum of the loads that are served with the load of an order; optional is whether it can be less.
func checkSum(o api.Order, served [][]int, optional bool) api.Errno {
	sum, err := loads.Sum(served, len(o.Load))
	switch {
	case err != api.OK:
		return err
	case !loads.Fits(sum, o.Load):
		return api.ErrLoad
	case !optional && !loads.Fits(o.Load, sum):
		return api.ErrMissing
	}
	return api.OK
}

// isNumber reports whether one of so many orders has a number.
func isNumber(number, orders int) bool { return 0 <= number && number < orders }
