package carry_test

import (
	"slices"
	"testing"

	"lorry/api"
)

// P17.4: the capacity less the greatest load, dimension by dimension.
func TestRoomAllAlongTheRoute(t *testing.T) {
	x := town("9", "b 4", "p 2", "d 3")
	wantRoom(t, x, route(0, "aA"), "5")
	wantRoom(t, x, route(0, "b"), "7")
	wantRoom(t, x, route(0, "C"), "6")
	wantRoom(t, x, route(0, "bC"), "4")
	wantRoom(t, x, route(0, "CaAb"), "5")
	wantRoom(t, x, route(0, "aACb"), "2")
	wantRoom(t, x, route(0, "baCA"), "0")
	x = town("10 9 8", "b 1 8 1", "p 1 1 8", "d 8 1 1")
	wantRoom(t, x, route(0, "CaAb"), "2 1 0")
	wantRoom(t, x, route(0, "aACb"), "1 0 0")
	wantFits(t, x, api.ErrLoad, "aCbA", "abAC")
}

// P17.4: the capacity of the type of the route.
func TestRoomOfTheType(t *testing.T) {
	x := town("3 3, 3 1000, 1000 3, 1000 1000, 4 5, 7 3", "b 3 2", "p 2 3")
	for number, want := range []string{"0 0", "0 997", "997 0", "997 997", "1 2", "4 0"} {
		wantRoom(t, x, route(number, "aAb"), want)
	}
	for number, want := range []string{"", "", "", "995 995", "", ""} {
		if want == "" {
			wantFitsType(t, x, route(number, "abA"), api.ErrLoad)
		} else {
			wantRoom(t, x, route(number, "abA"), want)
		}
	}
}

// P17.4: loads and capacities of 0, and the greatest ones.
func TestRoomHasItsEdges(t *testing.T) {
	wantRoom(t, town("0 0 0", "b 0 0 0"), route(0, "aA"), "0 0 0")
	wantRoom(t, town("1000 1000 1000", "b 0 0 0"), route(0, "aA"), "1000 1000 1000")
	wantRoom(t, town("1000 1000 1000", "b 1000 999 1"), route(0, "aA"), "0 1 999")
	wantRoom(t, town("1000", slices.Repeat([]string{"b 100"}, api.MaxOrders)...), route(0, "abcdefghijABCDEFGHIJ"), "0")
	wantRoom(t, town("1000", slices.Repeat([]string{"b 1000"}, api.MaxOrders)...), route(0, "aAbBcCdDeEfFgGhHiIjJ"), "0")
	for d, less := range []string{"999 1000 1000", "1000 999 1000", "1000 1000 999"} {
		wantRoom(t, town("1000 1000 1000", "p "+less), route(0, "a"), show([][]int{{1, 0, 0}, {0, 1, 0}, {0, 0, 1}}[d]))
		wantFits(t, town(less, "p 1000 1000 1000"), api.ErrLoad, "a")
	}
}
