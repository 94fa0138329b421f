package loads_test

import (
	"math"
	"math/rand"
	"slices"
	"testing"

	"lorry/api"
	"lorry/loads"
)

func wantTrips(t *testing.T, a, capacity []int, want int, wantErr api.Errno) {
	t.Helper()
	if n, err := loads.Trips(a, capacity); n != want || err != wantErr {
		t.Errorf("Trips(%v, %v) = %d, %d; want %d, %d", a, capacity, n, err, want, wantErr)
	}
}

// P6.3
func TestTripsHasItsExamples(t *testing.T) {
	for _, c := range []struct {
		a, capacity []int
		n           int
	}{
		{[]int{25, 10}, []int{10, 10}, 3}, {[]int{10, 25}, []int{10, 10}, 3}, {[]int{20}, []int{10}, 2}, {[]int{21}, []int{10}, 3}, {[]int{19}, []int{10}, 2}, {[]int{1}, []int{10}, 1}, {[]int{10}, []int{10}, 1}, {[]int{11}, []int{10}, 2},
		{nil, nil, 0}, {[]int{}, nil, 0}, {nil, []int{}, 0},
		{[]int{0, 0}, []int{0, 5}, 0}, {[]int{-1}, []int{0}, 0}, {[]int{-1}, []int{10}, 0}, {[]int{-25}, []int{10}, 0}, {[]int{0}, []int{0}, 0}, {[]int{0}, []int{1}, 0},
		{[]int{-5, 7}, []int{0, 7}, 1}, {[]int{0, 8}, []int{0, 7}, 2}, {[]int{8, -9}, []int{7, 0}, 2}, {[]int{-100, 3}, []int{1, 1}, 3},
		{[]int{1000, 1000, 1000}, []int{1, 1000, 999}, 1000}, {[]int{1, 2, 3, 4, 5}, []int{1, 1, 1, 1, 1}, 5},
		{[]int{far}, []int{1}, 1073741824}, {[]int{far}, []int{far}, 1}, {[]int{far}, []int{far - 1}, 2}, {[]int{1}, []int{far}, 1}, {[]int{far}, []int{2}, 536870912}, {[]int{far}, []int{3}, 357913942}, {[]int{far - 1}, []int{3}, 357913941}, {[]int{far}, []int{7}, 153391690}, {[]int{-far}, []int{0}, 0}, {[]int{-far}, []int{far}, 0},
	} {
		wantTrips(t, c.a, c.capacity, c.n, api.OK)
	}
}

// P6.3
func TestTripsRefusesWrongArguments(t *testing.T) {
	for _, c := range []struct{ a, capacity []int }{
		{[]int{1}, nil}, {nil, []int{1}}, {[]int{0}, nil}, {nil, []int{0}}, {[]int{1, 2}, []int{5}}, {[]int{1}, []int{5, 5}}, {[]int{-1}, nil},
		{[]int{1}, []int{-1}}, {[]int{0}, []int{-1}}, {[]int{-1}, []int{-1}}, {[]int{-2}, []int{-1}}, {[]int{far}, []int{-far}}, {[]int{-far}, []int{-far}},
		{[]int{1, 1}, []int{5, -1}}, {[]int{1, 1}, []int{-1, 5}}, {[]int{0, 0, 0}, []int{0, 0, -1}}, {[]int{3, 3, 3}, []int{5, -7, 5}},
	} {
		wantTrips(t, c.a, c.capacity, 0, api.ErrArg)
	}
}

// P6.3
func TestTripsRefusesLoadsWithoutCapacity(t *testing.T) {
	for _, c := range []struct{ a, capacity []int }{
		{[]int{0, 1}, []int{5, 0}}, {[]int{1, 0}, []int{0, 5}}, {[]int{1}, []int{0}}, {[]int{far}, []int{0}}, {[]int{1, 1}, []int{0, 0}}, {[]int{-1, 1}, []int{0, 0}}, {[]int{25, 10, 1}, []int{10, 10, 0}}, {[]int{1, 25, 10}, []int{0, 10, 10}},
	} {
		wantTrips(t, c.a, c.capacity, 0, api.ErrInfeas)
	}
}

// P6.3, R2: ErrArg is named first, wherever it applies.
func TestTripsReturnsTheErrorThatIsNamedFirst(t *testing.T) {
	for _, c := range []struct{ a, capacity []int }{
		{[]int{1, 1}, []int{0, -1}}, {[]int{1, 1}, []int{-1, 0}}, {[]int{1, -1}, []int{0, -1}}, {[]int{1, 0, 3}, []int{0, 5, -1}},
		{[]int{1}, []int{0, 0}}, {[]int{1, 1}, []int{0}}, {[]int{1}, []int{0, -1}}, {[]int{1, 1}, []int{-1}}, {[]int{1, 2, 3}, []int{0, 0}},
	} {
		wantTrips(t, c.a, c.capacity, 0, api.ErrArg)
	}
}

// fitting tries one number after the other, and adds the capacity each time; -1 if none up to most is enough.
func fitting(a, capacity []int, most int) int {
	all := make([]int, len(a))
	for n := range most + 1 {
		enough := true
		for i := range a {
			enough = enough && a[i] <= all[i]
			all[i] += capacity[i]
		}
		if enough {
			return n
		}
	}
	return -1
}

// wantFitting compares Trips with the least number that is enough; numbers of a are at most most.
func wantFitting(t *testing.T, a, capacity []int, most int) {
	t.Helper()
	if slices.ContainsFunc(capacity, func(c int) bool { return c < 0 }) {
		wantTrips(t, a, capacity, 0, api.ErrArg)
	} else if n := fitting(a, capacity, most); n < 0 {
		wantTrips(t, a, capacity, 0, api.ErrInfeas)
	} else {
		wantTrips(t, a, capacity, n, api.OK)
	}
}

// P6.3
func TestTripsIsTheLeastNumber(t *testing.T) {
	for x := -3; x <= 60; x++ {
		for c := -2; c <= 65; c++ {
			wantFitting(t, []int{x}, []int{c}, 60)
		}
	}
	some := []int{-2, -1, 0, 1, 2, 3, 4, 5, 7, 9}
	for _, a := range lists(some, 2) {
		for _, capacity := range lists(some, 2) {
			if len(a) == len(capacity) {
				wantFitting(t, a, capacity, 9)
			}
		}
	}
}

// P6.3
func TestTripsLooksAtEachDimension(t *testing.T) {
	r := rand.New(rand.NewSource(68))
	for i := range 4000 {
		size := i % 8
		a, capacity := drawn(r, size, 40), drawn(r, size, 12)
		if i%5 > 0 {
			capacity = positive(capacity)
		}
		wantFitting(t, a, capacity, 40)
	}
}

// times returns n times a capacity.
func times(n int, capacity []int) []int {
	l := slices.Clone(capacity)
	for i := range l {
		l[i] *= n
	}
	return l
}

// P6.6
func TestALoadFitsJustItsTrips(t *testing.T) {
	some := []int{-3, 0, 1, 2, 5, 8}
	for _, a := range lists(some, 3) {
		for _, capacity := range lists([]int{0, 1, 2, 5}, 3) {
			if len(a) != len(capacity) {
				continue
			}
			trips, err := loads.Trips(a, capacity)
			for n := range 10 {
				if loads.Fits(a, times(n, capacity)) != (err == api.OK && trips <= n) {
					t.Errorf("Trips(%v, %v) = %d, %d", a, capacity, trips, err)
				}
			}
		}
	}
}

// P6.6
func TestLargeLoadsFitJustTheirTrips(t *testing.T) {
	r := rand.New(rand.NewSource(69))
	for i := range 6000 {
		size := 1 + i%5
		a, capacity := drawn(r, size, []int{api.MaxLoad, far}[r.Intn(2)]), positive(drawn(r, size, []int{9, api.MaxLoad, far}[r.Intn(3)]))
		trips, err := loads.Trips(a, capacity)
		switch err {
		case api.OK:
			if !loads.Fits(a, times(trips, capacity)) || trips > 0 && loads.Fits(a, times(trips-1, capacity)) || trips < 0 {
				t.Errorf("Trips(%v, %v) = %d", a, capacity, trips)
			}
		case api.ErrInfeas:
			if loads.Fits(a, times(far, capacity)) {
				t.Errorf("Trips(%v, %v) = %d, %d", a, capacity, trips, err)
			}
		default:
			t.Errorf("Trips(%v, %v) = %d, %d", a, capacity, trips, err)
		}
	}
}

// R1: for other numbers nothing else is promised.
func TestAllCallsEnd(t *testing.T) {
	some := append([]int{math.MinInt + 1, -2, 2, 1 << 32, math.MaxInt - 1}, anyInts()...)
	every := lists(some, 2)
	for _, a := range every {
		for _, b := range every {
			loads.Add(a, b)
			loads.Sub(a, b)
			loads.Trips(a, b)
		}
		for _, b := range every[:60] {
			for _, dims := range append(otherDims(), 0, 1, 2, 3) {
				loads.Most([][]int{a, b, a}, dims)
				loads.Sum([][]int{a, b, a}, dims)
			}
		}
	}
}
