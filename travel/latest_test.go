package travel_test

import (
	"math"
	"math/rand"
	"testing"

	"lorry/api"
	"lorry/travel"
)

func wantLatest(t *testing.T, l []api.Point, a, want int, wantOk bool) {
	t.Helper()
	if got, ok := travel.Latest(l, a); got != want || ok != wantOk {
		t.Errorf("Latest(%v, %d) = %d, %v; want %d, %v", l, a, got, ok, want, wantOk)
	}
}

// P7.2
func TestLatestHasItsExamples(t *testing.T) {
	for _, c := range []struct {
		l       []api.Point
		a, want int
	}{
		{points(0, 5, 20, 35), 20, 10}, {points(0, 5, 20, 35), 5, 0}, {points(0, 5, 20, 35), 6, 0}, {points(0, 5, 20, 35), 7, 1}, {points(0, 5, 20, 35), 8, 2}, {points(0, 5, 20, 35), 9, 2}, {points(0, 5, 20, 35), 34, 19}, {points(0, 5, 20, 35), 35, 20}, {points(0, 5, 20, 35), 36, 21},
		{points(0, 10, 10, 10), 10, 10}, {points(0, 10, 10, 10), 11, 11},
		{points(7, 12), 5, 0}, {points(7, 12), 12, 7}, {points(7, 12), 11, 6}, {points(7, 12), 4100, 4095}, {points(7, 12), 4101, 4096}, {points(7, 12), 4102, 4096},
		{points(0, 0), 0, 0}, {points(0, 0), 4095, 4095}, {points(0, 0), 4096, 4096}, {points(0, 0), 4097, 4096},
		{points(0, 0, 4096, 8192), 8191, 4095}, {points(0, 0, 4096, 8192), 8192, 4096}, {points(0, 4096, 4096, 4096), 4096, 4096},
		{points(0, 5, 1, 90), 89, 0}, {points(0, 5, 1, 90), 90, 1}, {points(5, 5, 9, 30, 20, 30, 21, 100), 30, 20}, {points(5, 5, 9, 30, 20, 30, 21, 100), 99, 20}, {points(5, 5, 9, 30, 20, 30, 21, 100), 29, 8}, {points(5, 5, 9, 30, 20, 30, 21, 100), 11, 5}, {points(5, 5, 9, 30, 20, 30, 21, 100), 12, 6},
	} {
		wantLatest(t, c.l, c.a, c.want, true)
	}
}

// P7.2
func TestLatestFindsNoDeparture(t *testing.T) {
	for _, c := range []struct {
		l []api.Point
		a int
	}{
		{points(0, 5, 20, 35), 4}, {points(0, 5, 20, 35), 0}, {points(0, 10, 10, 10), 9}, {points(7, 12), 4}, {points(0, 0), -1}, {points(0, 4096), 4095}, {points(4096, 8192), 4095}, {points(4096, 4096), -1}, {points(0, 5), math.MinInt},
	} {
		wantLatest(t, c.l, c.a, 0, false)
	}
	for _, l := range ordinary() {
		wantLatest(t, l, arrivals(l, 0)[0]-1, 0, false)
		wantLatest(t, l, -1, 0, false)
		wantLatest(t, l, math.MinInt, 0, false)
	}
}

// P7.2: for the latest arrivals, too, the departure is at most MaxTime.
func TestLatestIsAtMostMaxTime(t *testing.T) {
	for _, l := range ordinary() {
		last := arrivals(l, api.MaxTime)[api.MaxTime]
		for _, a := range []int{last, last + 1, 8192, 8193, 1 << 30, 1<<30 + 1, 1 << 40, math.MaxInt - 1, math.MaxInt} {
			wantLatest(t, l, a, 4096, true)
		}
	}
}

// P7.2
func TestLatestRefusesOtherLists(t *testing.T) {
	for _, l := range notTravel() {
		for _, a := range []int{math.MinInt, -1, 0, 5, 4096, 8192, math.MaxInt} {
			wantLatest(t, l, a, 0, false)
		}
	}
}

// wantDepartures compares Latest for arrivals with the last one of all departures that is early enough.
func wantDepartures(t *testing.T, l []api.Point, most int) {
	t.Helper()
	all, latest := arrivals(l, api.MaxTime), -1
	for a := -3; a <= most; a++ {
		for latest < api.MaxTime && all[latest+1] <= a {
			latest++
		}
		wantLatest(t, l, a, max(latest, 0), latest >= 0)
	}
}

// P7.2
func TestLatestIsTheGreatestDeparture(t *testing.T) {
	r := rand.New(rand.NewSource(76))
	for _, l := range samples(r, 100) {
		wantDepartures(t, l, 2*api.MaxTime+3)
	}
	for _, l := range small(3, 4) {
		wantDepartures(t, l, 12)
	}
}

// checkInverse checks the law for one arrival.
func checkInverse(t *testing.T, l []api.Point, a int) {
	t.Helper()
	departure, ok := travel.Latest(l, a)
	switch {
	case departure < 0 || departure > api.MaxTime:
		t.Errorf("Latest(%v, %d) = %d", l, a, departure)
	case !ok && (departure != 0 || travel.Arrive(l, 0) <= a):
		t.Errorf("Latest(%v, %d) = %d, false", l, a, departure)
	case ok && (travel.Arrive(l, departure) > a || departure < api.MaxTime && travel.Arrive(l, departure+1) <= a):
		t.Errorf("Latest(%v, %d) = %d", l, a, departure)
	}
}

// P7.2
func TestLatestIsTheInverseOfArrive(t *testing.T) {
	r := rand.New(rand.NewSource(77))
	for _, l := range samples(r, 200) {
		for _, p := range l {
			for a := p.A - 3; a <= p.A+3; a++ {
				checkInverse(t, l, a)
			}
		}
		for range 100 {
			checkInverse(t, l, r.Intn(8300)-40)
		}
	}
}
