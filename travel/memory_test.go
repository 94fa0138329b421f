package travel_test

import (
	"math"
	"slices"
	"testing"

	"lorry/api"
	"lorry/travel"
)

// R4
func TestArgumentsAreNotModified(t *testing.T) {
	for _, l := range append(ordinary(), notTravel()...) {
		// What lies behind the list belongs to the caller, too.
		whole := append(slices.Clone(l), row(3)...)
		before := slices.Clone(whole)
		part := whole[:len(l)]
		travel.Check(part)
		travel.Same(part, part)
		for _, x := range []int{0, 1, 5, 6, 20, 4096} {
			travel.Arrive(part, x)
			travel.Latest(part, x)
			travel.Slower(part, x, 3)
			travel.Slower(part, 9, x)
		}
		if !slices.Equal(whole, before) {
			t.Errorf("%v became %v", before, whole)
		}
	}
}

// R4, R6: a result is new, and the same one each time.
func TestResultsAreNew(t *testing.T) {
	l := points(0, 5, 20, 35, 90, 100)
	for _, from := range []int{0, 1, 20, 21, 50, 90, 4096} {
		before := slices.Clone(l)
		first, err := travel.Slower(l, from, 0)
		want := slices.Clone(first)
		for i := range first {
			first[i] = api.Point{T: -7, A: -7}
		}
		second, e := travel.Slower(l, from, 0)
		if err != api.OK || e != api.OK || !slices.Equal(second, want) || !slices.Equal(l, before) {
			t.Errorf("Slower from %d: %v, then %v", from, want, second)
		}
	}
	wrong := points(-1, 5, 3, 2)
	faults := travel.Check(wrong)
	want := slices.Clone(faults)
	clear(faults)
	wantFaults(t, wrong, want...)
}

// R1: whatever the arguments are.
func TestAllCallsEnd(t *testing.T) {
	long := make([]api.Point, 200000)
	if len(travel.Check(long)) != len(long) {
		t.Error("the faults of a long list")
	}
	every := append(notTravel(), long)
	for _, p := range edgePoints() {
		every = append(every, []api.Point{p}, []api.Point{{T: 1, A: 1}, p}, []api.Point{p, {T: 4, A: 4}})
	}
	numbers := []int{math.MinInt, math.MinInt + 1, -1, 0, 1, 4096, 4097, 1 << 30, 1<<30 + 1, math.MaxInt - 1, math.MaxInt}
	for _, l := range every {
		travel.Same(l, every[0])
		travel.Same(points(0, 5), l)
		for _, x := range numbers {
			travel.Arrive(l, x)
			travel.Latest(l, x)
			for _, y := range numbers {
				travel.Slower(l, x, y)
			}
		}
	}
}
