package split_test

import (
	"slices"
	"strconv"

	"lorry/api"
	"lorry/split"
)

// These functions follow the sentences of the chapter, without regard to how long they take.

// dealt deals a number one by one: to the first part, to the second one, and so on, and again.
func dealt(number, parts int) []int {
	l := make([]int, parts)
	for i := range number {
		l[i%parts]++
	}
	return l
}

// modelLoads deals the number of each dimension.
func modelLoads(load []int, parts int) [][]int {
	l := make([][]int, parts)
	for _, number := range load {
		for k, n := range dealt(number, parts) {
			l[k] = append(l[k], n)
		}
	}
	return l
}

// modelParts returns the orders that stand in the place of an order.
func modelParts(o api.Order) []api.Order {
	if o.Split <= 1 {
		return []api.Order{o}
	}
	var l []api.Order
	for k, load := range modelLoads(o.Load, o.Split) {
		p := o
		p.Name, p.Load, p.Split = o.Name+"_"+strconv.Itoa(k+1), load, 1
		if o.Penalty >= 0 {
			// The quotient of what is left, rounded up.
			p.Penalty = (o.Penalty - k + o.Split - 1) / o.Split
		}
		l = append(l, p)
	}
	return l
}

// modelExpand builds the whole expanded instance before it looks for errors.
func modelExpand(x api.Instance) (api.Instance, []int, api.Errno) {
	y, numbers := cloned(x), make([][]int, len(x.Orders))
	y.Orders = nil
	var origin []int
	for i, o := range x.Orders {
		for _, p := range modelParts(o) {
			numbers[i] = append(numbers[i], len(y.Orders))
			y.Orders, origin = append(y.Orders, p), append(origin, i)
		}
	}
	y.Apart, y.Before = modelPairs(x.Apart, numbers), modelPairs(x.Before, numbers)
	if len(y.Orders) > 10 {
		return api.Instance{}, nil, api.ErrSize
	}
	if err := modelNames(x, y, numbers); err != api.OK {
		return api.Instance{}, nil, err
	}
	if len(y.Apart) > 16 || len(y.Before) > 16 {
		return api.Instance{}, nil, api.ErrSize
	}
	return y, origin, api.OK
}

func modelNames(x, y api.Instance, numbers [][]int) api.Errno {
	for i, o := range y.Orders {
		if !slices.ContainsFunc(numbers, func(l []int) bool { return len(l) > 1 && slices.Contains(l, i) }) {
			continue
		}
		sameName := func(p api.Order) bool { return p.Name == o.Name }
		if len(o.Name) > 16 {
			return api.ErrName
		}
		if slices.ContainsFunc(y.Orders[:i], sameName) || slices.ContainsFunc(x.Orders, sameName) {
			return api.ErrTwice
		}
	}
	return api.OK
}

func modelPairs(l pairs, numbers [][]int) pairs {
	var result pairs
	for _, p := range l {
		for _, a := range numbers[p[0]] {
			for _, b := range numbers[p[1]] {
				result = append(result, [2]int{a, b})
			}
		}
	}
	return result
}

// modelMerge adds, for each order, the loads of those of its parts that are on a route.
func modelMerge(x api.Instance, p api.Plan) [][]split.Share {
	y, origin, _ := modelExpand(x)
	l := make([][]split.Share, len(p.Routes))
	for i, r := range p.Routes {
		for number, o := range x.Orders {
			sum, some := make([]int, len(o.Load)), false
			for k, one := range y.Orders {
				if origin[k] != number || !slices.ContainsFunc(r.Visits, func(v api.Visit) bool { return v.Order == k }) {
					continue
				}
				some = true
				for d := range sum {
					sum[d] += one.Load[d]
				}
			}
			if some {
				l[i] = append(l[i], split.Share{Order: number, Load: sum})
			}
		}
	}
	return l
}

// modelWhole compares the sum of each dimension of each order.
func modelWhole(x api.Instance, l [][]split.Share, unserved []int) api.Errno {
	exists := func(number int) bool { return number >= 0 && number < len(x.Orders) }
	if slices.ContainsFunc(unserved, func(number int) bool { return !exists(number) }) {
		return api.ErrArg
	}
	all := slices.Concat(l...)
	for _, s := range all {
		if !exists(s.Order) || len(s.Load) != len(x.Orders[s.Order].Load) || slices.ContainsFunc(s.Load, func(n int) bool { return n < 0 || n > 1000 }) {
			return api.ErrArg
		}
	}
	for number, o := range x.Orders {
		more, less := false, false
		for d, load := range o.Load {
			for _, s := range all {
				if s.Order == number {
					load -= s.Load[d]
				}
			}
			more, less = more || load < 0, less || load > 0
		}
		if more {
			return api.ErrLoad
		}
		if less && !o.Off && !slices.Contains(unserved, number) {
			return api.ErrMissing
		}
	}
	return api.OK
}
