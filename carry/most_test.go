package carry_test

import (
	"slices"
	"testing"

	"lorry/api"
)

// P17.3: at the beginning, in the middle, and at the end of the route.
func TestMostAllAlongTheRoute(t *testing.T) {
	x := town("9", "b 4", "p 2", "d 3")
	wantMost(t, x, "aA", "4")
	wantMost(t, x, "b", "2")
	wantMost(t, x, "C", "3")
	wantMost(t, x, "Cb", "3")
	wantMost(t, x, "bC", "5")
	wantMost(t, x, "CaAb", "4")
	wantMost(t, x, "aACb", "7")
	wantMost(t, x, "baCA", "9")
	wantMost(t, town("9", "b 1", "p 8", "d 2"), "CaAb", "8")
	wantMost(t, town("9", "b 1", "p 2", "d 8"), "CaAb", "8")
	wantMost(t, town("9", "b 5", "b 5", "b 5"), "abABcC", "10")
	wantMost(t, town("9", "b 5", "b 6", "b 7"), "aAbBcC", "7")
	wantMost(t, town("9", "b 7", "b 6", "b 5"), "aAbBcC", "7")
}

// P17.3: each dimension by itself.
func TestMostOfEachDimension(t *testing.T) {
	wantMost(t, town("0 0 0", "b 1 8 1", "p 1 1 8", "d 8 1 1"), "CaAb", "8 8 8")
	wantMost(t, town("0 0 0", "b 1 8 1", "p 1 1 8", "d 8 1 1"), "aACb", "9 9 8")
	wantMost(t, town("0 0 0", "b 0 0 7", "p 0 5 0", "d 3 0 0"), "abAC", "3 5 7")
	wantMost(t, town("0 0", "b 6 1", "b 5 2"), "aAbB", "6 2")
	wantMost(t, town("0 0", "b 6 1", "b 5 2"), "abBA", "11 3")
	wantMost(t, town("0 0", "b 0 0", "p 0 0", "d 0 0"), "CabA", "0 0")
	wantMost(t, town("0 0", "b 1000 0", "p 0 1000", "d 0 0"), "CaAb", "1000 1000")
}

// P17.3: as many orders as an instance can have.
func TestMostOfAllOrders(t *testing.T) {
	const greatest = "1000 1000 1000"
	x := town(greatest, slices.Repeat([]string{"b " + greatest}, api.MaxOrders)...)
	wantMost(t, x, "abcdefghijABCDEFGHIJ", "10000 10000 10000")
	wantMost(t, x, "aAbBcCdDeEfFgGhHiIjJ", greatest)
	wantMost(t, x, "abABcdCDefEFghGHijIJ", "2000 2000 2000")
	wantMost(t, town("9", slices.Repeat([]string{"d 1000"}, api.MaxOrders)...), "JIHGFEDCBA", "10000")
	wantMost(t, town("9", slices.Repeat([]string{"p 1000"}, api.MaxOrders)...), "jihgfedcba", "10000")
}
