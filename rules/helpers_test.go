package rules_test

import (
	"fmt"
	"iter"
	"math"
	"math/rand"
	"slices"

	"lorry/api"
)

// pairs is a list of pairs of orders.
type pairs = [][2]int

// instance returns an instance with so many orders.
func instance(orders int, apart, before pairs) api.Instance {
	return api.Instance{Orders: make([]api.Order, orders), Apart: apart, Before: before}
}

// without cancels orders.
func without(x api.Instance, orders ...int) api.Instance {
	x.Orders = slices.Clone(x.Orders)
	for _, i := range orders {
		x.Orders[i].Off = true
	}
	return x
}

// chain returns the pairs of neighbours.
func chain(orders ...int) pairs {
	var l pairs
	for i := 1; i < len(orders); i++ {
		l = append(l, [2]int{orders[i-1], orders[i]})
	}
	return l
}

// circle returns the pairs of a chain that ends where it begins.
func circle(orders ...int) pairs {
	return chain(append(orders, orders[0])...)
}

// together returns the pairs of several lists.
func together(lists ...pairs) pairs { return slices.Concat(lists...) }

// allPairs returns all pairs of different orders; those of which the first one is the lesser one come first.
func allPairs(orders int) pairs {
	var rising, falling pairs
	for a := range orders {
		for b := range a {
			rising, falling = append(rising, [2]int{b, a}), append(falling, [2]int{a, b})
		}
	}
	return append(rising, falling...)
}

// setOf adds powers of two.
func setOf(orders ...int) int {
	set := 0
	for _, i := range orders {
		set += 1 << i
	}
	return set
}

// anyInts returns ints of all sizes.
func anyInts() []int {
	return []int{math.MinInt, math.MinInt + 1, -1 << 32, -64, -63, -2, -1, 0, 1, 2, 3, 7, 9, 10, 11, 16, 61, 62, 63, 64, 65, 127, 128, 1000, 1 << 32, 1<<32 + 1, 1 << 62, math.MaxInt - 1, math.MaxInt}
}

// reaches returns from which orders to which ones there are chains, by allowing one order more in between at a time.
func reaches(orders int, before pairs) [][]bool {
	reach := make([][]bool, orders)
	for a := range reach {
		reach[a] = make([]bool, orders)
	}
	for _, p := range before {
		reach[p[0]][p[1]] = true
	}
	for between := range reach {
		for a := range reach {
			for b := range reach {
				reach[a][b] = reach[a][b] || reach[a][between] && reach[between][b]
			}
		}
	}
	return reach
}

// closureOf is a model of Closure.
func closureOf(orders int, before pairs) pairs {
	var l pairs
	for a, row := range reaches(orders, before) {
		for b, reached := range row {
			if reached {
				l = append(l, [2]int{a, b})
			}
		}
	}
	return l
}

// needsOf is a model of Needs.
func needsOf(x api.Instance, order int) int {
	if order < 0 || order >= len(x.Orders) {
		return 0
	}
	set := 0
	for a, row := range reaches(len(x.Orders), x.Before) {
		if row[order] || a == order {
			set += 1 << a
		}
	}
	return set
}

// allowedOf is a model of Allowed.
func allowedOf(x api.Instance, set int) api.Errno {
	if set < 0 || set >= setOf(len(x.Orders)) {
		return api.ErrArg
	}
	in := make([]bool, len(x.Orders))
	for i := range in {
		in[i], set = set%2 == 1, set/2
	}
	err := api.OK
	// The errors that come first in the chapter are found last.
	for i, row := range reaches(len(x.Orders), x.Before) {
		if in[i] && row[i] {
			err = api.ErrBefore
		}
	}
	for _, p := range x.Before {
		if in[p[1]] && !in[p[0]] {
			err = api.ErrBefore
		}
	}
	for _, p := range x.Apart {
		if in[p[0]] && in[p[1]] {
			err = api.ErrApart
		}
	}
	for i, o := range x.Orders {
		if in[i] && o.Off {
			err = api.ErrState
		}
	}
	return err
}

// neverOf is a model of Never.
func neverOf(x api.Instance) int {
	set := 0
	for i, o := range x.Orders {
		if !o.Off && allowedOf(x, needsOf(x, i)) != api.OK {
			set += 1 << i
		}
	}
	return set
}

// smallInstances traverses the instances with 3 orders that have the pairs in any case, with their orders cancelled in all ways.
func smallInstances() iter.Seq[api.Instance] {
	return func(yield func(api.Instance) bool) {
		apart, before := allPairs(3)[:3], allPairs(3)
		for bits := range 1 << 12 {
			x := instance(3, chosen(apart, bits), chosen(before, bits>>3))
			for i := range x.Orders {
				x.Orders[i].Off = bits>>(9+i)%2 == 1
			}
			if !yield(x) {
				return
			}
		}
	}
}

// chosen returns the pairs whose bits are set.
func chosen(l pairs, bits int) pairs {
	var some pairs
	for i, p := range l {
		if bits>>i%2 == 1 {
			some = append(some, p)
		}
	}
	return some
}

// drawnApart returns pairs that Check accepts, with either order named first.
func drawnApart(r *rand.Rand, orders int) pairs {
	every := allPairs(orders)
	l := some(r, every[:len(every)/2])
	for i, p := range l {
		if r.Intn(2) == 0 {
			l[i] = [2]int{p[1], p[0]}
		}
	}
	return l
}

// drawnBefore returns pairs that Check accepts; half of them have no circles.
func drawnBefore(r *rand.Rand, orders int) pairs {
	every := allPairs(orders)
	if r.Intn(2) == 0 {
		every = every[:len(every)/2]
	}
	number := r.Perm(orders)
	l := some(r, every)
	for i, p := range l {
		l[i] = [2]int{number[p[0]], number[p[1]]}
	}
	return l
}

// some returns at most 16 of the pairs in any order.
func some(r *rand.Rand, every pairs) pairs {
	l := slices.Clone(every)
	r.Shuffle(len(l), func(i, k int) { l[i], l[k] = l[k], l[i] })
	return l[:r.Intn(min(len(l), api.MaxPairs)+1)]
}

// drawn returns an instance with pairs that Check accepts; few orders are cancelled.
func drawn(r *rand.Rand) api.Instance {
	orders := 1 + r.Intn(api.MaxOrders)
	x := instance(orders, drawnApart(r, orders), drawnBefore(r, orders))
	for i := range x.Orders {
		x.Orders[i].Off = r.Intn(8) == 0
	}
	return x
}

// show names what the functions look at.
func show(x api.Instance) string {
	var off []int
	for i, o := range x.Orders {
		if o.Off {
			off = append(off, i)
		}
	}
	return fmt.Sprintf("%d orders, off %v, apart %v, before %v", len(x.Orders), off, x.Apart, x.Before)
}
