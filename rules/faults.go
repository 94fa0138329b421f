package rules

import (
	"strconv"

	"lorry/api"
)

// faults returns the faults of a list of pairs with a name; pairs with the same numbers in the same order are equal.
func faults(name string, orders int, pairs [][2]int) []api.Fault {
	var l []api.Fault
	if len(pairs) > api.MaxPairs {
		l = append(l, api.Fault{Err: api.ErrSize, At: name})
	}
	seen := make(map[[2]int]bool, len(pairs))
	for i, p := range pairs {
		at := name + " " + strconv.Itoa(i)
		switch {
		case !isRight(orders, p):
			l = append(l, api.Fault{Err: api.ErrArg, At: at})
		case seen[p]:
			l = append(l, api.Fault{Err: api.ErrTwice, At: at})
		}
		seen[p] = true
	}
	return l
}

// ascending returns pairs with the lesser number first, because it does not matter which order of a pair of Apart is named first.
func ascending(pairs [][2]int) [][2]int {
	l := make([][2]int, len(pairs))
	for i, p := range pairs {
		l[i] = [2]int{min(p[0], p[1]), max(p[0], p[1])}
	}
	return l
}

// isRight reports whether the orders of a pair exist, and are different.
func isRight(orders int, p [2]int) bool {
	return 0 <= min(p[0], p[1]) && max(p[0], p[1]) < orders && p[0] != p[1]
}
