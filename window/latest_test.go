package window_test

import (
	"math"
	"testing"

	"lorry/api"
	"lorry/window"
)

func wantLatest(t *testing.T, s api.Stop, depart, want int, wantOk bool) {
	t.Helper()
	if got, ok := window.Latest(s, depart); got != want || ok != wantOk {
		t.Errorf("Latest(%v, %d) = %d, %v; want %d, %v", s, depart, got, ok, want, wantOk)
	}
}

// P8.3
func TestLatestHasItsExamples(t *testing.T) {
	for _, c := range []struct {
		s              api.Stop
		depart, arrive int
	}{
		{stop(10, 20, 5), 20, 15}, {stop(10, 20, 5), 40, 20}, {stop(10, 20, 5), 15, 10}, {stop(10, 20, 5), 16, 11}, {stop(10, 20, 5), 24, 19}, {stop(10, 20, 5), 25, 20}, {stop(10, 20, 5), 26, 20}, {stop(10, 20, 5), math.MaxInt, 20},
		{stop(10, 20, 0), 10, 10}, {stop(10, 20, 0), 15, 15}, {stop(10, 20, 0), 20, 20}, {stop(10, 20, 0), 21, 20},
		{stop(10, 10, 5), 15, 10}, {stop(10, 10, 5), 16, 10}, {stop(0, 0, 0), 0, 0}, {stop(0, 0, 0), 1, 0}, {stop(0, 0, 4096), 4096, 0}, {stop(0, 0, 4096), math.MaxInt, 0},
		{stop(4096, 4096, 4096), 8192, 4096}, {stop(4096, 4096, 4096), 8193, 4096}, {stop(0, 4096, 4096), 4096, 0}, {stop(0, 4096, 4096), 4097, 1}, {stop(0, 4096, 4096), 8191, 4095}, {stop(0, 4096, 4096), 8192, 4096}, {stop(0, 4096, 4096), 8193, 4096},
		{api.Stop{Open: 10, Close: 20, Service: 5}, 20, 15}, {api.Stop{Place: math.MaxInt, Open: 10, Close: 20, Service: 5}, 40, 20},
	} {
		wantLatest(t, c.s, c.depart, c.arrive, true)
	}
}

// P8.3: no arrival ends as early.
func TestLatestRefusesDeparturesThatAreTooEarly(t *testing.T) {
	wantLatest(t, stop(10, 20, 5), 14, 0, false)
	wantLatest(t, stop(10, 20, 0), 9, 0, false)
	wantLatest(t, stop(0, 4096, 4096), 4095, 0, false)
	wantLatest(t, stop(0, 0, 0), -1, 0, false)
	for _, s := range edgeStops() {
		for _, depart := range []int{s.Open + s.Service - 1, s.Open + s.Service - 2, s.Open - 1, s.Service - 1, -1, -4096, -4097, -1 << 32, math.MinInt + 4096, math.MinInt + 1, math.MinInt} {
			wantLatest(t, s, depart, 0, false)
		}
	}
}

// wantLast compares Latest with the last tick of the window at which a service begins that ends in time.
func wantLast(t *testing.T, s api.Stop, ticks []int, depart int) {
	t.Helper()
	last, ok := 0, false
	for _, tick := range ticks {
		if tick+s.Service <= depart {
			last, ok = tick, true
		}
	}
	wantLatest(t, s, depart, last, ok)
}

// P8.3
func TestLatestIsTheLastArrivalInTime(t *testing.T) {
	for _, s := range edgeStops() {
		ticks := times(s)
		for _, depart := range departures(s) {
			wantLast(t, s, ticks, depart)
		}
	}
	for _, s := range smallStops(7) {
		for depart, ticks := -3, times(s); depart < 20; depart++ {
			wantLast(t, s, ticks, depart)
		}
	}
	for _, s := range []api.Stop{stop(10, 20, 5), stop(0, 4096, 4096), stop(1000, 3000, 77), stop(4096, 4096, 0)} {
		for depart, ticks := -300, times(s); depart <= 2*api.MaxTime+300; depart++ {
			wantLast(t, s, ticks, depart)
		}
	}
}

// endsInTime reports whether the service of an arrival ends at a tick or earlier.
func endsInTime(s api.Stop, arrive, depart int) bool {
	end, err := window.Depart(s, arrive)
	return err == api.OK && end <= depart
}

// P8.6: Depart of the latest arrival is in time, and that of no later one is.
func TestLatestIsTheInverseOfDepart(t *testing.T) {
	for _, s := range append(edgeStops(), smallStops(6)...) {
		for _, depart := range departures(s) {
			latest, ok := window.Latest(s, depart)
			if ok && !endsInTime(s, latest, depart) {
				t.Errorf("Latest(%v, %d) = %d, which is too late", s, depart, latest)
			}
			for _, arrive := range append(arrivals(s), latest+1, latest+2) {
				if (!ok || arrive > latest) && endsInTime(s, arrive, depart) {
					t.Errorf("Latest(%v, %d) = %d, %v, but %d is in time", s, depart, latest, ok, arrive)
				}
			}
		}
	}
}
