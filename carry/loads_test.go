package carry_test

import (
	"slices"
	"testing"

	"lorry/api"
)

// P17.1: the example of its section, in one dimension and in all.
func TestLoadsOfOneOrder(t *testing.T) {
	wantLoads(t, town("9", "b 3"), "aA", "0", "3", "0")
	wantLoads(t, town("9", "p 3"), "a", "0", "3")
	wantLoads(t, town("9", "d 3"), "A", "3", "0")
	wantLoads(t, town("9 9", "b 3 4"), "aA", "0 0", "3 4", "0 0")
	wantLoads(t, town("9 9 9", "b 3 4 5"), "aA", "0 0 0", "3 4 5", "0 0 0")
	wantLoads(t, town("9 9 9", "p 3 0 5"), "a", "0 0 0", "3 0 5")
	wantLoads(t, town("9 9 9", "d 0 4 5"), "A", "0 4 5", "0 0 0")
}

// P17.1: orders of one kind, in any sequence.
func TestLoadsOfOrdersOfOneKind(t *testing.T) {
	x := town("9 9", "b 1 5", "b 2 6", "b 4 0")
	wantLoads(t, x, "aAbBcC", "0 0", "1 5", "0 0", "2 6", "0 0", "4 0", "0 0")
	wantLoads(t, x, "abcABC", "0 0", "1 5", "3 11", "7 11", "6 6", "4 0", "0 0")
	wantLoads(t, x, "cbBaCA", "0 0", "4 0", "6 6", "4 0", "5 5", "1 5", "0 0")
	x = town("9 9", "p 1 5", "p 2 6", "p 4 0")
	wantLoads(t, x, "abc", "0 0", "1 5", "3 11", "7 11")
	wantLoads(t, x, "cab", "0 0", "4 0", "5 5", "7 11")
	x = town("9 9", "d 1 5", "d 2 6", "d 4 0")
	wantLoads(t, x, "ABC", "7 11", "6 6", "4 0", "0 0")
	wantLoads(t, x, "CAB", "7 11", "3 11", "2 6", "0 0")
}

// P17.1: orders of all kinds. The greatest load is at the beginning, in the middle, or at the end.
func TestLoadsOfOrdersOfEachKind(t *testing.T) {
	x := town("9", "b 4", "p 2", "d 3")
	wantLoads(t, x, "CaAb", "3", "0", "4", "0", "2")
	wantLoads(t, x, "aACb", "3", "7", "3", "0", "2")
	wantLoads(t, x, "baCA", "3", "5", "9", "6", "2")
	wantLoads(t, x, "abAC", "3", "7", "9", "5", "2")
	wantLoads(t, x, "Cb", "3", "0", "2")
	wantLoads(t, x, "bC", "3", "5", "2")
	wantLoads(t, town("9", "b 1", "p 8", "d 2"), "CaAb", "2", "0", "1", "0", "8")
	wantLoads(t, town("9", "b 1", "p 2", "d 8"), "CaAb", "8", "0", "1", "0", "2")
}

// P17.1: orders that are not on the route play no part, nor do cancelled ones.
func TestLoadsOfSomeOrders(t *testing.T) {
	x := town("9", "d 1", "d 2", "b 4", "p 8", "d 16")
	wantLoads(t, x, "A", "1", "0")
	wantLoads(t, x, "BE", "18", "16", "0")
	wantLoads(t, x, "cCd", "0", "4", "0", "8")
	wantLoads(t, x, "EcdC", "16", "0", "4", "12", "8")
	x.Orders[0].Off, x.Orders[2].Off = true, true
	wantLoads(t, x, "BEd", "18", "16", "0", "8")
}

// P17.1: the loads have the dimensions of the capacities, and need not be within them.
func TestLoadsHaveAllDimensions(t *testing.T) {
	wantLoads(t, town("0 0 0", "b 0 0 7", "p 0 5 0", "d 3 0 0"), "abAC", "3 0 0", "3 0 7", "3 5 7", "3 5 0", "0 5 0")
	wantLoads(t, town("0, 0", "b 1000", "b 1000"), "abBA", "0", "1000", "2000", "1000", "0")
	wantLoads(t, town("1000 0, 0 1000", "d 1000 0", "p 0 1000"), "bA", "1000 0", "1000 1000", "0 1000")
	wantLoads(t, town("5 5", "b 0 0", "d 0 0", "p 0 0"), "caBA", "0 0", "0 0", "0 0", "0 0", "0 0")
}

// P17.1: as many orders as an instance can have, with the greatest loads.
func TestLoadsOfAllOrders(t *testing.T) {
	const greatest = "1000 1000 1000"
	of := func(kind string) api.Instance {
		return town(greatest, slices.Repeat([]string{kind + " " + greatest}, api.MaxOrders)...)
	}
	var up []string
	for n := range api.MaxOrders + 1 {
		up = append(up, show(slices.Repeat([]int{n * api.MaxLoad}, api.MaxDims)))
	}
	down := slices.Clone(up)
	slices.Reverse(down)
	wantLoads(t, of("p"), "jihgfedcba", up...)
	wantLoads(t, of("d"), "ABCDEFGHIJ", down...)
	wantLoads(t, of("b"), "abcdefghijACBDEFGHIJ", append(up, down[1:]...)...)
	wantLoads(t, town("9", slices.Repeat([]string{"b 7"}, api.MaxOrders)...), "aAbBcCdDeEfFgGhHiIjJ", append(slices.Repeat([]string{"0", "7"}, api.MaxOrders), "0")...)
}

// refused returns an instance, and routes for each error that sequence.Check returns; those of greater numbers have further ones.
func refused() (api.Instance, map[api.Errno][]string) {
	x := town("0", "b 1", "b 1", "p 1", "d 1", "b 1", "b 1", "b 1")
	x.Apart, x.Before = pairs("af"), pairs("ba", "bf", "dc")
	x.Orders[4].Off = true
	return x, map[api.Errno][]string{
		api.ErrArg:    {"", "i", "I", "aAh", "eHH", "bbZ"},
		api.ErrState:  {"e", "E", "eE", "bBeE", "bbe", "aEa"},
		api.ErrTwice:  {"bb", "bBb", "bBB", "DD", "dd", "aAfFDD"},
		api.ErrPair:   {"b", "B", "Bb", "C", "dD", "cC", "bBg", "bBgGa", "af"},
		api.ErrApart:  {"aAfF", "bBaAfF", "bBfFaA"},
		api.ErrBefore: {"aA", "fF", "c", "aAbB", "baBA", "cD", "bfFB"},
	}
}

// P17.1, P17.3: each error of sequence.Check, whatever the type is.
func TestLoadsOfRoutesThatAreRefused(t *testing.T) {
	x, routes := refused()
	wantValid(t, x)
	for err, l := range routes {
		for _, s := range l {
			for _, number := range anyInts() {
				wantRefused(t, x, route(number, s), err)
			}
		}
	}
	for _, number := range anyInts() {
		if number < 0 || number >= len(x.Orders) {
			for _, drop := range []bool{false, true} {
				r := route(0, "bB")
				r.Visits = append(r.Visits, api.Visit{Order: number, Drop: drop})
				wantRefused(t, x, r, api.ErrArg)
			}
		}
	}
	wantRefused(t, town("9"), route(0, ""), api.ErrArg)
	wantRefused(t, town("9"), route(0, "A"), api.ErrArg)
	wantRefused(t, town("9", "b 1"), api.Route{Visits: []api.Visit{}}, api.ErrArg)
}
