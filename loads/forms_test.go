package loads_test

import (
	"math"
	"math/rand"
	"slices"
	"testing"

	"lorry/api"
	"lorry/loads"
)

// P6.1
func TestRightHasItsEdges(t *testing.T) {
	for _, c := range []struct {
		a    []int
		dims int
		want bool
	}{
		{nil, 0, true}, {[]int{}, 0, true}, {nil, 1, false}, {[]int{}, 1, false}, {nil, -1, false}, {[]int{}, -1, false},
		{[]int{0}, 0, false}, {[]int{0}, 1, true}, {[]int{0}, 2, false}, {[]int{0}, -1, false},
		{[]int{5}, 1, true}, {[]int{api.MaxLoad}, 1, true}, {[]int{api.MaxLoad + 1}, 1, false}, {[]int{-1}, 1, false}, {[]int{-1}, 0, false},
		{[]int{0, api.MaxLoad}, 2, true}, {[]int{api.MaxLoad, 0}, 2, true}, {[]int{0, api.MaxLoad + 1}, 2, false}, {[]int{-1, 0}, 2, false},
		{[]int{1, 2, 3}, api.MaxDims, true}, {[]int{1, 2, 3}, 2, false}, {[]int{1, 2, 3}, 4, false}, {[]int{1, 2, 3}, -3, false},
		{[]int{1, -1, 3}, 3, false}, {[]int{1, 1001, 3}, 3, false}, {[]int{1, 2, -1}, 3, false}, {[]int{1, 2, 1001}, 3, false},
	} {
		if loads.Right(c.a, c.dims) != c.want {
			t.Errorf("Right(%v, %d) is not %v", c.a, c.dims, c.want)
		}
	}
}

// P6.1: for any list and any dims.
func TestRightAcceptsJustRightLoads(t *testing.T) {
	right := map[int]bool{0: true, 1: true, 999: true, 1000: true}
	eachList(anyInts(), 4, func(a []int) {
		every := true
		for _, x := range a {
			every = every && right[x]
		}
		for dims := -2; dims <= 6; dims++ {
			if loads.Right(a, dims) != (every && len(a) == dims) {
				t.Errorf("Right(%v, %d) is not %v", a, dims, !loads.Right(a, dims))
			}
		}
		for _, dims := range []int{math.MinInt, math.MaxInt, len(a) + 1<<32, -len(a) - 1} {
			if loads.Right(a, dims) {
				t.Errorf("Right(%v, %d)", a, dims)
			}
		}
	})
}

// P6.1
func TestRightAcceptsEachNumberUpToMaxLoad(t *testing.T) {
	for x := -300; x <= api.MaxLoad+300; x++ {
		want := 0 <= x && x <= 1000
		if loads.Right([]int{x}, 1) != want || loads.Right([]int{0, 7, x}, 3) != want {
			t.Errorf("Right with %d is not %v", x, want)
		}
	}
}

// P6.1: the lists may have more than MaxDims numbers.
func TestRightLooksAtEachNumber(t *testing.T) {
	for size := range 40 {
		a := make([]int, size)
		for dims := -1; dims <= 41; dims++ {
			if loads.Right(a, dims) != (size == dims) {
				t.Errorf("Right of %d zeros for %d", size, dims)
			}
		}
		for i := range a {
			for _, x := range []int{-1, 1001, math.MinInt, math.MaxInt} {
				a[i] = x
				if loads.Right(a, size) {
					t.Errorf("Right(%v, %d)", a, size)
				}
			}
			a[i] = 1000
		}
	}
}

// P6.1
func TestFitsHasItsEdges(t *testing.T) {
	for _, c := range []struct {
		a, capacity []int
		want        bool
	}{
		{[]int{2, 3}, []int{2, 4}, true}, {[]int{3, 3}, []int{2, 4}, false}, {[]int{2, 5}, []int{2, 4}, false}, {[]int{2, 4}, []int{2, 4}, true}, {[]int{1}, []int{2, 4}, false}, {[]int{2, 4}, []int{2}, false},
		{nil, nil, true}, {nil, []int{}, true}, {[]int{}, nil, true}, {nil, []int{0}, false}, {[]int{0}, nil, false}, {[]int{-1}, nil, false},
		{[]int{0}, []int{0}, true}, {[]int{1}, []int{0}, false}, {[]int{-1}, []int{0}, true}, {[]int{0}, []int{-1}, false}, {[]int{-2}, []int{-1}, true}, {[]int{-1}, []int{-2}, false},
		{[]int{math.MinInt}, []int{math.MaxInt}, true}, {[]int{math.MaxInt}, []int{math.MinInt}, false}, {[]int{1}, []int{math.MinInt}, false}, {[]int{math.MaxInt}, []int{-1}, false}, {[]int{-2}, []int{math.MaxInt}, true},
	} {
		if loads.Fits(c.a, c.capacity) != c.want {
			t.Errorf("Fits(%v, %v) is not %v", c.a, c.capacity, c.want)
		}
	}
}

// wantFits compares Fits with the places of the numbers in an ascending list.
func wantFits(t *testing.T, ascending, a, b []int) {
	t.Helper()
	want := len(a) == len(b)
	for i := 0; want && i < len(a); i++ {
		want = slices.Index(ascending, a[i]) <= slices.Index(ascending, b[i])
	}
	if loads.Fits(a, b) != want {
		t.Errorf("Fits(%v, %v) is not %v", a, b, want)
	}
}

// P6.1: for any lists.
func TestFitsComparesEachNumber(t *testing.T) {
	every := lists(anyInts(), 2)
	for _, a := range every {
		for _, b := range every {
			wantFits(t, anyInts(), a, b)
		}
	}
	some := []int{math.MinInt, -1, 0, 1, math.MaxInt}
	every = lists(some, 3)
	for _, a := range every {
		for _, b := range every {
			wantFits(t, some, a, b)
		}
	}
}

// P6.1: the lists may have more than MaxDims numbers.
func TestFitsLooksAtEachNumber(t *testing.T) {
	r := rand.New(rand.NewSource(61))
	for size := range 40 {
		b := drawn(r, size, far)
		a := slices.Clone(b)
		for i := range a {
			a[i]++
			if loads.Fits(a, b) {
				t.Errorf("Fits(%v, %v)", a, b)
			}
			a[i] -= 1 + r.Intn(2)
			if !loads.Fits(a, b) {
				t.Errorf("not Fits(%v, %v)", a, b)
			}
		}
		if loads.Fits(a, append(slices.Clone(b), far)) || loads.Fits(append(slices.Clone(a), -far), b) {
			t.Errorf("%d and %d numbers", size, size+1)
		}
	}
}
