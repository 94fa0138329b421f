package travel_test

import (
	"math/rand"
	"slices"
	"testing"

	"lorry/api"
	"lorry/travel"
)

// wantSame compares Same of two lists in both orders.
func wantSame(t *testing.T, a, b []api.Point, want bool) {
	t.Helper()
	if travel.Same(a, b) != want || travel.Same(b, a) != want {
		t.Errorf("Same(%v, %v) is not %v", a, b, want)
	}
}

// P7.1
func TestSameHasItsExamples(t *testing.T) {
	wantSame(t, points(0, 5), points(7, 12, 9, 14), true)
	wantSame(t, points(0, 5), points(0, 6), false)
	wantSame(t, points(0, 5), points(4096, 4101), true)
	wantSame(t, points(0, 5), points(4096, 4102), false)
	wantSame(t, points(0, 5), row(16), true)
	wantSame(t, points(0, 10, 10, 10), points(0, 10, 3, 10, 10, 10), true)
	wantSame(t, points(0, 10, 10, 10), points(0, 10, 11, 10), false)
	wantSame(t, points(0, 5, 20, 35), points(0, 5, 10, 20, 20, 35), true)
	wantSame(t, points(0, 5, 20, 35), points(0, 5, 20, 35, 21, 36), true)
	wantSame(t, points(0, 5, 20, 35), points(0, 5, 20, 34), false)
	wantSame(t, points(0, 0, 4096, 8192), points(0, 0, 2000, 4000, 4096, 8192), true)
	wantSame(t, points(0, 0, 4096, 8192), points(0, 0), false)
}

// P7.1: functions that are only the same because arrivals are rounded.
func TestSameComparesRoundedArrivals(t *testing.T) {
	wantSame(t, points(0, 3, 3, 4), points(0, 3, 1, 4, 3, 4), true)
	wantSame(t, points(0, 3, 3, 4), points(0, 3, 2, 4, 3, 4), true)
	wantSame(t, points(0, 3, 3, 4), points(0, 3, 2, 3, 3, 4), false)
	wantSame(t, points(0, 5, 10, 20), points(0, 5, 1, 7, 2, 8, 3, 10, 4, 11, 5, 13, 6, 14, 7, 16, 8, 17, 9, 19, 10, 20), true)
	wantSame(t, points(0, 5, 10, 20), points(0, 5, 1, 7, 2, 8, 3, 10, 4, 11, 5, 13, 6, 14, 7, 15, 8, 17, 9, 19, 10, 20), false)
}

// later returns a function whose arrivals are 5 ticks after the departure, but 6 ticks for one departure.
func later(departure int) []api.Point {
	l := points(departure, departure+6)
	if departure > 0 {
		l = slices.Insert(l, 0, api.Point{T: departure - 1, A: departure + 4})
	}
	if departure < api.MaxTime {
		l = append(l, api.Point{T: departure + 1, A: departure + 6})
	}
	return l
}

// P7.1: arrivals that differ at one departure alone, whatever it is.
func TestSameLooksAtEachDeparture(t *testing.T) {
	for departure := range api.MaxTime + 1 {
		wantSame(t, points(0, 5), later(departure), false)
		wantSame(t, later(departure), later((departure+1)%4097), false)
	}
}

// P7.1: functions with any points.
func TestSameComparesAllArrivals(t *testing.T) {
	all := small(2, 4)
	model := make([][]int, len(all))
	for i, l := range all {
		model[i] = arrivals(l, api.MaxTime)
	}
	for i, a := range all {
		for j, b := range all[:i+1] {
			wantSame(t, a, b, slices.Equal(model[i], model[j]))
		}
	}
	r := rand.New(rand.NewSource(81))
	for range 1000 {
		a := drawn(r)
		b := slices.Clone(a)
		b[r.Intn(len(b))].A += r.Intn(2)
		wantSame(t, a, b, len(travel.Check(b)) == 0 && slices.Equal(a, b))
	}
}

// P7.1, P7.3: points that are added change arrivals only by rounding them anew.
func TestSameComparesFunctionsWithMorePoints(t *testing.T) {
	r := rand.New(rand.NewSource(82))
	for _, l := range samples(r, 300) {
		slower, err := travel.Slower(l, r.Intn(api.MaxTime+1), 0)
		if err == api.OK {
			wantSame(t, l, slower, slices.Equal(arrivals(l, api.MaxTime), arrivals(slower, api.MaxTime)))
		}
	}
}

// P7.1
func TestSameRefusesOtherLists(t *testing.T) {
	for _, l := range notTravel() {
		wantSame(t, l, l, false)
		for _, right := range [][]api.Point{points(0, 5), points(0, 5, 20, 35), row(16)} {
			wantSame(t, l, right, false)
		}
	}
}
