package rules

import (
	"cmp"
	"slices"

	"lorry/api"
	"lorry/sets"
)

// maxChains is how many pairs follow from a list that Check accepts, at most: each begins as a pair of the list, and ends as one.
const maxChains = api.MaxPairs * api.MaxPairs

// Closure returns all pairs that follow from pairs of orders that come before others.
func Closure(orders int, before [][2]int) [][2]int {
	// From longer lists, which Check refuses, more pairs could follow than fit into the memory.
	if len(before) > maxChains {
		return nil
	}
	// How many orders there are plays no part: Check has accepted the pairs.
	chains := joined(before)
	slices.SortFunc(chains, compare)
	return chains
}

// joined returns the first and the last order of each chain of links, once each.
func joined(links [][2]int) [][2]int {
	var chains [][2]int
	seen := make(map[[2]int]bool)
	add := func(p [2]int) {
		if !seen[p] {
			seen[p] = true
			chains = append(chains, p)
		}
	}
	for _, link := range links {
		add(link)
	}
	// The list grows while its chains are continued.
	for i := 0; i < len(chains); i++ {
		for _, link := range links {
			if link[0] == chains[i][1] {
				add([2]int{chains[i][0], link[1]})
			}
		}
	}
	return chains
}

func compare(p, q [2]int) int {
	return cmp.Or(cmp.Compare(p[0], q[0]), cmp.Compare(p[1], q[1]))
}

// ahead returns those of the orders that come first in a pair whose second order is in a set.
func ahead(before [][2]int, orders, set int) int {
	first := 0
	for _, p := range before {
		if sets.Has(orders, p[0]) && sets.Has(set, p[1]) {
			first |= 1 << p[0]
		}
	}
	return first
}

// canFollow reports whether the orders of a set can follow one another, each after all that it needs: not if one of these is missing, nor if they are a circle.
func canFollow(before [][2]int, set int) bool {
	done, last := 0, -1
	for done != last {
		done, last = set&^waiting(before, set, done), done
	}
	return done == set
}

// waiting returns the orders of a set that come second in a pair whose first order is not done.
func waiting(before [][2]int, set, done int) int {
	second := 0
	for _, p := range before {
		if sets.Has(set, p[1]) && !sets.Has(done, p[0]) {
			second |= 1 << p[1]
		}
	}
	return second
}
