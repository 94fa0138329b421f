package sequence

import (
	"lorry/api"
	"lorry/order"
)

// greatest is the greatest number that an order of a set can have.
const greatest = 62

// progress has the set of the orders that are picked up, and that of those that are delivered.
type progress struct{ picked, dropped int }

// with returns the progress after one visit more, of an order that can be in a set.
func (p progress) with(v api.Visit) progress {
	if v.Drop {
		p.dropped |= 1 << v.Order
	} else {
		p.picked |= 1 << v.Order
	}
	return p
}

// ways decide which visits can follow others.
type ways struct {
	orders int      // whose visits are wanted
	all    progress // after all visits of all orders, wanted or not
	ahead  []int    // for each order, the set of those that come before it
}

// waysOf returns the ways through the visits of a set of orders; cancelled orders are not wanted.
func waysOf(x api.Instance, set int) ways {
	w := ways{ahead: make([]int, min(len(x.Orders), greatest+1))}
	for number := range w.ahead {
		if has(set, number) && !x.Orders[number].Off {
			w.orders |= 1 << number
		}
		for _, v := range order.Visits(x.Orders, number) {
			w.all = w.all.with(v)
		}
	}
	for _, p := range x.Before {
		if isNumber(p[0]) && 0 <= p[1] && p[1] < len(w.ahead) {
			w.ahead[p[1]] |= 1 << p[0]
		}
	}
	return w
}

// next returns the visits that can follow what is done, ascending. Of an order it is one visit at most: the delivery waits for the pickup.
func (w ways) next(done progress) []api.Visit {
	var l []api.Visit
	undone := w.all.picked &^ done.picked
	left := undone | w.all.dropped&^done.dropped
	for number, ahead := range w.ahead {
		if has(w.orders&left, number) && ahead&left == 0 {
			l = append(l, api.Visit{Order: number, Drop: !has(undone, number)})
		}
	}
	return l
}

func isNumber(number int) bool { return 0 <= number && number <= greatest }

func has(set, number int) bool { return set>>number&1 == 1 }
