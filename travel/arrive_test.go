package travel_test

import (
	"math"
	"math/rand"
	"testing"

	"lorry/api"
	"lorry/travel"
)

func wantArrive(t *testing.T, l []api.Point, departure, want int) {
	t.Helper()
	if got := travel.Arrive(l, departure); got != want {
		t.Errorf("Arrive(%v, %d) = %d; want %d", l, departure, got, want)
	}
}

// P7.1
func TestArriveHasItsExamples(t *testing.T) {
	for _, c := range []struct {
		l               []api.Point
		departure, want int
	}{
		{points(0, 5, 20, 35), 10, 20}, {points(0, 5, 20, 35), 1, 7}, {points(0, 5, 20, 35), 30, 45}, {points(0, 5, 20, 35), 0, 5}, {points(0, 5, 20, 35), 2, 8}, {points(0, 5, 20, 35), 19, 34}, {points(0, 5, 20, 35), 20, 35}, {points(0, 5, 20, 35), 21, 36},
		{points(7, 12), 0, 5}, {points(7, 12), 6, 11}, {points(7, 12), 7, 12}, {points(7, 12), 8, 13}, {points(7, 12), 5000, 5005},
		{points(0, 10, 10, 10), 0, 10}, {points(0, 10, 10, 10), 7, 10}, {points(0, 10, 10, 10), 10, 10}, {points(0, 10, 10, 10), 11, 11},
		{points(5, 9), 0, 4}, {points(0, 0), 0, 0}, {points(0, 0), 77, 77},
		{points(0, 3, 3, 4), 0, 3}, {points(0, 3, 3, 4), 1, 4}, {points(0, 3, 3, 4), 2, 4}, {points(0, 3, 3, 4), 3, 4}, {points(0, 3, 3, 4), 4, 5},
		{points(10, 10, 13, 20), 9, 9}, {points(10, 10, 13, 20), 11, 14}, {points(10, 10, 13, 20), 12, 17},
		{points(0, 4096, 4096, 8192), 4095, 8191}, {points(0, 0, 4096, 8192), 4095, 8190}, {points(0, 0, 4096, 8192), 4097, 8193}, {points(0, 1, 4096, 4097), 1, 2}, {points(0, 0, 4096, 4097), 1, 2}, {points(0, 0, 4096, 4097), 4095, 4096},
		{points(4, 6, 6, 6, 9, 30, 10, 30), 3, 5}, {points(4, 6, 6, 6, 9, 30, 10, 30), 5, 6}, {points(4, 6, 6, 6, 9, 30, 10, 30), 7, 14}, {points(4, 6, 6, 6, 9, 30, 10, 30), 9, 30}, {points(4, 6, 6, 6, 9, 30, 10, 30), 12, 32},
	} {
		wantArrive(t, c.l, c.departure, c.want)
	}
}

// P7.1: the limits of departures.
func TestArriveHasTheLimitsOfDepartures(t *testing.T) {
	for _, l := range ordinary() {
		last := l[len(l)-1]
		wantArrive(t, l, 1<<30, 1073741824+last.A-last.T)
		wantArrive(t, l, 1<<30-1, 1073741823+last.A-last.T)
		wantArrive(t, l, 0, arrivals(l, 0)[0])
		for _, departure := range []int{-1, -2, -1 << 30, math.MinInt, 1<<30 + 1, 1 << 31, math.MaxInt} {
			wantArrive(t, l, departure, 0)
		}
	}
}

// P7.1
func TestArriveRefusesOtherLists(t *testing.T) {
	for _, l := range notTravel() {
		for _, departure := range []int{-1, 0, 1, 20, api.MaxTime, 1 << 30, 1<<30 + 1} {
			wantArrive(t, l, departure, 0)
		}
	}
}

// wantArrivals compares all arrivals, up to those behind every point.
func wantArrivals(t *testing.T, l []api.Point, most int) {
	t.Helper()
	for departure, want := range arrivals(l, most) {
		wantArrive(t, l, departure, want)
	}
}

// P7.1
func TestArriveIsRoundedUpBetweenPoints(t *testing.T) {
	for _, l := range small(3, 5) {
		wantArrivals(t, l, 8)
	}
	r := rand.New(rand.NewSource(74))
	for _, l := range samples(r, 300) {
		wantArrivals(t, l, api.MaxTime+50)
	}
}

// checkNoOvertaking checks departures one after the other.
func checkNoOvertaking(t *testing.T, l []api.Point, from, to int) {
	t.Helper()
	for departure := from; departure < to; departure++ {
		a, next := travel.Arrive(l, departure), travel.Arrive(l, departure+1)
		if a < departure || next < a || next < departure+1 {
			t.Errorf("%v arrives at %d for %d, and at %d for the next departure", l, a, departure, next)
		}
	}
}

// P7.1
func TestNobodyIsOvertaken(t *testing.T) {
	r := rand.New(rand.NewSource(75))
	for _, l := range samples(r, 300) {
		checkNoOvertaking(t, l, 0, api.MaxTime+50)
		checkNoOvertaking(t, l, lastDeparture-50, lastDeparture)
	}
	for _, l := range small(4, 4) {
		checkNoOvertaking(t, l, 0, 7)
	}
}
