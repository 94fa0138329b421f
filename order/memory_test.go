package order_test

import (
	"math/rand"
	"reflect"
	"slices"
	"testing"

	"lorry/api"
	"lorry/order"
)

// results calls every function with orders and two numbers, and returns what they return.
func results(n api.Network, l []api.Order, x, y int) []any {
	r := []any{order.Check(n, x, y, l), order.Visits(l, x)}
	for _, number := range []int{x, 0, len(l) - 1, len(l)} {
		for _, v := range []api.Visit{pickup(number), delivery(number)} {
			s, err := order.Stop(l, v)
			r = append(r, s, err)
		}
	}
	for _, set := range []int{x, y, 0, 1, 7} {
		for _, dims := range []int{x, y, 2} {
			sum, err := order.Load(l, set, dims)
			r = append(r, sum, err)
		}
	}
	for i, o := range l {
		r = append(r, order.Visits(l, i), order.Same(o, l[0]), order.Same(l[(i+1)%len(l)], o))
	}
	return r
}

// R4: neither the lists are modified nor what lies behind them.
func TestArgumentsAreNotModified(t *testing.T) {
	r := rand.New(rand.NewSource(121))
	for range 300 {
		whole, n := append(changed(r, drawn(r, usual())), allWrong(), parcel("behind", 5)), network(5)
		l := whole[:len(whole)-2]
		var lists [][]int
		for i := range l {
			longer := append(l[i].Load, -3, -4)
			lists = append(lists, longer)
			l[i].Load = longer[:len(longer)-2]
		}
		before, beforeLists := cloned(whole), cloneLists(lists)
		results(api.Network{Places: n.Places[:3]}, l, 2, 1<<len(l)-1)
		if !reflect.DeepEqual(cloned(whole), before) || !slices.EqualFunc(lists, beforeLists, slices.Equal) || !slices.Equal(n.Places, network(5).Places) {
			t.Errorf("%+v became %+v", before, whole)
		}
	}
}

func cloneLists(lists [][]int) [][]int {
	var l [][]int
	for _, one := range lists {
		l = append(l, slices.Clone(one))
	}
	return l
}

// R4, R6: results are new, and the same ones each time.
func TestResultsAreNew(t *testing.T) {
	l := []api.Order{between(0, 1), allWrong()}
	faults := usual().check(l)
	clear(faults[:cap(faults)])
	usual().want(t, l, at(1, api.ErrName, api.ErrLoad, api.ErrPlace, api.ErrWindow, api.ErrSkill, api.ErrArg))
	visits := order.Visits(l, 0)
	clear(visits[:cap(visits)])
	wantVisits(t, l, 0, pickup(0), delivery(0))
	load, _ := order.Load(l, 1, 2)
	kept, _ := order.Load(l, 1, 2)
	clear(load[:cap(load)])
	wantLoad(t, l, 1, 2, 5, 7)
	clear(l[0].Load)
	if !slices.Equal(kept, []int{5, 7}) {
		t.Errorf("the load became %v", kept)
	}
}

// R1: whatever the arguments are; R6: the same call has the same results.
func TestAllCallsEnd(t *testing.T) {
	r := rand.New(rand.NewSource(122))
	numbers := anyInts()
	lists := [][]api.Order{nil, {}, {{}}, {{}, {}, {}}, {allWrong()}, {allWrong(), allWrong()}, parcels(300), make([]api.Order, 5000)}
	for _, x := range numbers {
		every := with(func(o *api.Order) {
			o.Load = []int{x, x}
			for _, f := range fields(o) {
				*f = x
			}
		})
		lists = append(lists, []api.Order{every}, []api.Order{parcel("a", x), every, every})
	}
	for range 300 {
		lists = append(lists, changed(r, drawn(r, usual())))
	}
	for _, l := range lists {
		for _, n := range []api.Network{{}, network(1), network(3), network(1000)} {
			x, y := numbers[r.Intn(len(numbers))], numbers[r.Intn(len(numbers))]
			if first, second := results(n, l, x, y), results(n, l, x, y); !reflect.DeepEqual(first, second) {
				t.Errorf("%+v: %v, then %v", l, first, second)
			}
		}
	}
}

// R1: each function for each number of each kind.
func TestAllNumbersEnd(t *testing.T) {
	l := []api.Order{between(0, 1), allWrong(), parcel("a", 5)}
	for _, x := range anyInts() {
		for _, y := range anyInts() {
			results(network(2), l, x, y)
		}
	}
}

// R1: large lists, too.
func TestLargeListsEnd(t *testing.T) {
	l := parcels(200000)
	l[0].Load = make([]int, 200000)
	faults := usual().check(l)
	// All but the first orders with a number from 0 to 1000 in their load have ErrLoad.
	if len(faults) != 1+1+len(l)-1001 || !order.Same(l[0], l[0]) || len(order.Visits(l, len(l)-1)) != 1 {
		t.Errorf("%d faults", len(faults))
	}
	wantNoLoad(t, l, 1, 2)
	for i := range l {
		l[i].Name, l[i].Load = "a", nil
	}
	if faults := usual().check(l); len(faults) != 1+len(l)+len(l)-1 {
		t.Errorf("%d faults", len(faults))
	}
}
