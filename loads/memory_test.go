package loads_test

import (
	"slices"
	"testing"

	"lorry/api"
	"lorry/loads"
)

// results calls every function that returns a list, with lists of three numbers.
func results(a, b []int, l [][]int) [][]int {
	first := func(l []int, _ api.Errno) []int { return l }
	return [][]int{first(loads.Add(a, b)), first(loads.Sub(a, b)), first(loads.Most(l, 3)), first(loads.Sum(l, 3)), first(loads.Most(l[:1], 3)), first(loads.Sum(l[:1], 3)), first(loads.Most(nil, 3)), first(loads.Sum(nil, 3))}
}

// R4
func TestArgumentsAreNotModified(t *testing.T) {
	a, b := []int{5, 0, -3}, []int{0, 0, 0}
	l := [][]int{{1, 7, 0}, {4, 0, 9}, {0, 0, 0}}
	beforeA, beforeB, beforeL := slices.Clone(a), slices.Clone(b), clones(l)
	results(a, b, l)
	loads.Right(a, 3)
	loads.Fits(a, b)
	loads.Trips(a, b)
	loads.Trips(b, a)
	if !slices.Equal(a, beforeA) || !slices.Equal(b, beforeB) || !slices.EqualFunc(l, beforeL, slices.Equal[[]int]) {
		t.Errorf("%v became %v, %v became %v, %v became %v", beforeA, a, beforeB, b, beforeL, l)
	}
}

// R4, R6: a result is new, and the same one each time.
func TestResultsAreNew(t *testing.T) {
	a, b := []int{5, 2, 8}, []int{0, 0, 0}
	l := [][]int{{1, 7, 0}, {4, 0, 9}, {0, 0, 0}}
	want := clones(results(a, b, l))
	for _, r := range results(a, b, l) {
		if len(r) != 3 {
			t.Fatal(r)
		}
		for i := range r {
			r[i] = -7
		}
		if got := results(a, b, l); !slices.EqualFunc(got, want, slices.Equal[[]int]) {
			t.Errorf("%v; want %v", got, want)
		}
	}
}
