package carry_test

import (
	"slices"

	"lorry/api"
	"lorry/sequence"
)

// These are models of the functions: what is on board is found anew for each position, from all orders.

func modelOf(x api.Instance, r api.Route) answers {
	err := sequence.Check(x, r)
	a := answers{Errors: [4]api.Errno{err, err, err, err}}
	if err == api.OK {
		a.Loads = loadsOf(x, r.Visits)
		a.Most = mostOf(a.Loads)
	}
	if r.Type < 0 || r.Type >= len(x.Types) {
		a.Errors[1], a.Errors[3] = api.ErrArg, api.ErrArg
		return a
	}
	if err != api.OK {
		return a
	}
	capacity := x.Types[r.Type].Cap
	if !areWithin(a.Loads, capacity) {
		a.Errors[1], a.Errors[3] = api.ErrLoad, api.ErrLoad
		return a
	}
	for d := range capacity {
		a.Room = append(a.Room, capacity[d]-a.Most[d])
	}
	return a
}

func loadsOf(x api.Instance, l []api.Visit) [][]int {
	var found [][]int
	for done := range len(l) + 1 {
		sum := make([]int, len(x.Types[0].Cap))
		for number, o := range x.Orders {
			if isOn(l, number) && isAboard(x, l[:done], number) {
				for d, n := range o.Load {
					sum[d] += n
				}
			}
		}
		found = append(found, sum)
	}
	return found
}

func isOn(l []api.Visit, number int) bool {
	return slices.ContainsFunc(l, func(v api.Visit) bool { return v.Order == number })
}

// isAboard reports whether an order of a route is on board after some of its visits.
func isAboard(x api.Instance, done []api.Visit, number int) bool {
	came := x.Orders[number].Pick.Place == -1 || slices.Contains(done, api.Visit{Order: number})
	return came && !slices.Contains(done, api.Visit{Order: number, Drop: true})
}

// mostOf sorts the numbers of each dimension.
func mostOf(l [][]int) []int {
	var most []int
	for d := range l[0] {
		var numbers []int
		for _, one := range l {
			numbers = append(numbers, one[d])
		}
		slices.Sort(numbers)
		most = append(most, numbers[len(numbers)-1])
	}
	return most
}

func areWithin(l [][]int, capacity []int) bool {
	for _, one := range l {
		for d, n := range one {
			if n > capacity[d] {
				return false
			}
		}
	}
	return true
}
