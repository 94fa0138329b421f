package split_test

import (
	"math"
	"math/rand"
	"testing"

	"lorry/api"
	"lorry/loads"
	"lorry/split"
)

// P15.1
func TestLoadsHasItsExample(t *testing.T) {
	wantLoads(t, []int{7, 2}, 3, [][]int{{3, 1}, {2, 1}, {2, 0}})
}

// P15.1
func TestLoadsHasItsEdges(t *testing.T) {
	for _, c := range []struct {
		load  []int
		parts int
		want  [][]int
	}{
		{nil, 1, [][]int{nil}}, {nil, 4, [][]int{nil, nil, nil, nil}}, {[]int{}, 2, [][]int{nil, nil}},
		{[]int{0}, 1, [][]int{{0}}}, {[]int{0}, 4, [][]int{{0}, {0}, {0}, {0}}},
		{[]int{1}, 4, [][]int{{1}, {0}, {0}, {0}}}, {[]int{2}, 4, [][]int{{1}, {1}, {0}, {0}}}, {[]int{3}, 4, [][]int{{1}, {1}, {1}, {0}}}, {[]int{4}, 4, [][]int{{1}, {1}, {1}, {1}}}, {[]int{5}, 4, [][]int{{2}, {1}, {1}, {1}}},
		{[]int{1000}, 1, [][]int{{1000}}}, {[]int{1000}, 2, [][]int{{500}, {500}}}, {[]int{1000}, 3, [][]int{{334}, {333}, {333}}}, {[]int{1000}, 4, [][]int{{250}, {250}, {250}, {250}}},
		{[]int{999}, 4, [][]int{{250}, {250}, {250}, {249}}}, {[]int{998}, 4, [][]int{{250}, {250}, {249}, {249}}},
		{[]int{0, 1000, 1}, 3, [][]int{{0, 334, 1}, {0, 333, 0}, {0, 333, 0}}}, {[]int{3, 2, 1}, 2, [][]int{{2, 1, 1}, {1, 1, 0}}}, {[]int{3, 2, 1}, 1, [][]int{{3, 2, 1}}},
	} {
		wantLoads(t, c.load, c.parts, c.want)
	}
}

// P15.1: each number, alone and in each dimension.
func TestLoadsOfEachNumber(t *testing.T) {
	for number := range 1001 {
		for parts := 1; parts <= 4; parts++ {
			for _, load := range [][]int{{number}, {number, 5}, {1000 - number, number}, {number, 0, 1000}, {3, number, number / 2}, {1000, 1, number}} {
				wantLoads(t, load, parts, modelLoads(load, parts))
			}
		}
	}
}

// P15.1: whatever the load is.
func TestLoadsRefusesNumbersOfParts(t *testing.T) {
	for _, parts := range anyInts() {
		for _, load := range [][]int{nil, {0}, {5}, {1000, 0}, {1, 2, 3}, {-1}, {1, 2, 3, 4}} {
			if parts < 1 || parts > 4 {
				wantNoLoads(t, load, parts)
			}
		}
	}
}

// P15.1: whatever the number of parts is.
func TestLoadsRefusesLoads(t *testing.T) {
	for parts := -1; parts <= 6; parts++ {
		for _, number := range []int{math.MinInt, -1 << 32, -1000, -2, -1, 1001, 1002, 1 << 32, math.MaxInt} {
			for _, load := range [][]int{{number}, {number, 5}, {5, number}, {number, 1, 2}, {1, number, 2}, {1, 2, number}} {
				wantNoLoads(t, load, parts)
			}
		}
		for dims := 4; dims < 40; dims++ {
			wantNoLoads(t, make([]int, dims), parts)
		}
		wantNoLoads(t, make([]int, 1<<20), parts)
	}
}

// P15.1, P15.4: any loads.
func TestPartsAddUp(t *testing.T) {
	r := rand.New(rand.NewSource(1501))
	for range 10000 {
		load, parts := drawnLoad(r, r.Intn(4)), 1+r.Intn(4)
		wantLoads(t, load, parts, modelLoads(load, parts))
		wantEven(t, load, parts)
	}
}

// P15.4: each number.
func TestPartsOfEachNumberAddUp(t *testing.T) {
	for number := range 1001 {
		for parts := 1; parts <= 4; parts++ {
			wantEven(t, []int{number}, parts)
			wantEven(t, []int{1000 - number, 7, number}, parts)
		}
	}
}

// wantEven checks the sum of the parts, their differences, and that the greater ones come first.
func wantEven(t *testing.T, load []int, parts int) {
	t.Helper()
	l, err := split.Loads(load, parts)
	if err != api.OK || len(l) != parts {
		t.Errorf("Loads(%v, %d) = %v, %d", load, parts, l, err)
		return
	}
	if sum, err := loads.Sum(l, len(load)); err != api.OK || !equal(sum, load) {
		t.Errorf("the sum of Loads(%v, %d) is %v; error %d", load, parts, sum, err)
	}
	for d := range load {
		for k := range parts {
			for later := k; later < parts; later++ {
				if difference := l[k][d] - l[later][d]; difference < 0 || difference > 1 {
					t.Errorf("Loads(%v, %d) = %v", load, parts, l)
				}
			}
		}
	}
}
