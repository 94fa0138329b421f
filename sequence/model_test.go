package sequence_test

import (
	"slices"

	"lorry/api"
)

// These are models of the functions, sentence by sentence.

func visitsOf(x api.Instance, number int) []api.Visit {
	var l []api.Visit
	if x.Orders[number].Pick.Place != -1 {
		l = append(l, api.Visit{Order: number, Drop: false})
	}
	if x.Orders[number].Drop.Place != -1 {
		l = append(l, api.Visit{Order: number, Drop: true})
	}
	return l
}

func checkOf(x api.Instance, l []api.Visit) api.Errno {
	// The errors that come first in the chapter are found last.
	err := api.OK
	exists := func(v api.Visit) bool { return 0 <= v.Order && v.Order < len(x.Orders) }
	if len(l) == 0 || slices.IndexFunc(l, func(v api.Visit) bool { return !exists(v) }) >= 0 {
		return api.ErrArg
	}
	for _, p := range x.Before {
		if isOn(l, p[1]) && (!isOn(l, p[0]) || comesAfter(l, p[0], p[1])) {
			err = api.ErrBefore
		}
	}
	for _, p := range x.Apart {
		if isOn(l, p[0]) && isOn(l, p[1]) {
			err = api.ErrApart
		}
	}
	for _, v := range l {
		if !isServed(l, visitsOf(x, v.Order)) || !slices.Contains(visitsOf(x, v.Order), v) {
			err = api.ErrPair
		}
	}
	for i, v := range l {
		if slices.Contains(l[i+1:], v) {
			err = api.ErrTwice
		}
	}
	for _, v := range l {
		if x.Orders[v.Order].Off {
			err = api.ErrState
		}
	}
	return err
}

func isOn(l []api.Visit, number int) bool {
	return slices.ContainsFunc(l, func(v api.Visit) bool { return v.Order == number })
}

// comesAfter reports whether a visit of a comes after one of b.
func comesAfter(l []api.Visit, a, b int) bool {
	for i, v := range l {
		if v.Order == a && isOn(l[:i], b) {
			return true
		}
	}
	return false
}

// isServed reports whether the visits of an order are there, the pickup first.
func isServed(l, own []api.Visit) bool {
	for i, v := range own {
		if !slices.Contains(l, v) || i > 0 && slices.Index(l, own[i-1]) > slices.Index(l, v) {
			return false
		}
	}
	return true
}

// allOf tries all orders of the visits.
func allOf(x api.Instance, set int) [][]api.Visit {
	var every []api.Visit
	for number := range members(set) {
		every = append(every, visitsOf(x, number)...)
	}
	var found [][]api.Visit
	eachOrder(every, func(l []api.Visit) {
		if checkOf(x, l) == api.OK {
			found = append(found, slices.Clone(l))
		}
	})
	slices.SortFunc(found, func(a, b []api.Visit) int {
		if lessOf(a, b) {
			return -1
		}
		return 1
	})
	return found
}

// eachOrder calls f with the elements of a list in each order.
func eachOrder[T any](l []T, f func([]T)) {
	var from func(at int)
	from = func(at int) {
		if at >= len(l) {
			f(l)
		}
		for i := at; i < len(l); i++ {
			l[at], l[i] = l[i], l[at]
			from(at + 1)
			l[at], l[i] = l[i], l[at]
		}
	}
	from(0)
}

// countOf counts the sequences of an allowed set by the visits that are left, without listing them.
func countOf(x api.Instance, set int) int {
	known := make(map[string]int)
	var from func(left []api.Visit) int
	from = func(left []api.Visit) int {
		key := show(left)
		if count, ok := known[key]; ok || len(left) == 0 {
			return max(count, 1)
		}
		count := 0
		for i, v := range left {
			waits := v.Drop && slices.Contains(left, api.Visit{Order: v.Order})
			for _, p := range x.Before {
				waits = waits || p[1] == v.Order && isOn(left, p[0])
			}
			if !waits {
				count += from(slices.Delete(slices.Clone(left), i, i+1))
			}
		}
		known[key] = count
		return count
	}
	var every []api.Visit
	for number := range members(set) {
		every = append(every, visitsOf(x, number)...)
	}
	return from(every)
}

func nextOf(x api.Instance, set int, l []api.Visit) []api.Visit {
	var found []api.Visit
	for number := range members(set) {
		if number >= len(x.Orders) || x.Orders[number].Off {
			continue
		}
		for _, v := range visitsOf(x, number) {
			pickup := api.Visit{Order: number}
			follows := !slices.Contains(l, v) && (!v.Drop || x.Orders[number].Pick.Place == -1 || slices.Contains(l, pickup))
			for _, p := range x.Before {
				if p[1] == number {
					for _, w := range visitsOf(x, p[0]) {
						follows = follows && slices.Contains(l, w)
					}
				}
			}
			if follows {
				found = append(found, v)
			}
		}
	}
	return found
}

func lessOf(a, b []api.Visit) bool {
	switch {
	case len(b) == 0:
		return false
	case len(a) == 0:
		return true
	case a[0].Order != b[0].Order:
		return a[0].Order < b[0].Order
	case a[0].Drop != b[0].Drop:
		return b[0].Drop
	}
	return lessOf(a[1:], b[1:])
}
