package window_test

import (
	"math"
	"testing"

	"lorry/api"
	"lorry/window"
)

func wantBegin(t *testing.T, s api.Stop, arrive, want int, wantErr api.Errno) {
	t.Helper()
	got, err := window.Begin(s, arrive)
	wantTick(t, "Begin", s, arrive, got, err, want, wantErr)
}

func wantDepart(t *testing.T, s api.Stop, arrive, want int, wantErr api.Errno) {
	t.Helper()
	got, err := window.Depart(s, arrive)
	wantTick(t, "Depart", s, arrive, got, err, want, wantErr)
}

// P8.2
func TestBeginAndDepartHaveTheirExamples(t *testing.T) {
	for _, c := range []struct {
		s             api.Stop
		arrive, begin int
	}{
		{stop(10, 20, 5), 3, 10}, {stop(10, 20, 5), 15, 15}, {stop(10, 20, 5), 9, 10}, {stop(10, 20, 5), 10, 10}, {stop(10, 20, 5), 11, 11}, {stop(10, 20, 5), 19, 19}, {stop(10, 20, 5), 20, 20},
		{stop(10, 20, 5), 0, 10}, {stop(10, 20, 5), -1, 10}, {stop(10, 20, 5), -4096, 10}, {stop(10, 20, 5), math.MinInt, 10},
		{stop(10, 20, 0), 3, 10}, {stop(10, 20, 0), 20, 20}, {stop(10, 20, 4096), 3, 10}, {stop(10, 20, 4096), 20, 20},
		{stop(10, 10, 5), 9, 10}, {stop(10, 10, 5), 10, 10}, {stop(0, 0, 0), -1, 0}, {stop(0, 0, 0), 0, 0}, {stop(0, 0, 4096), math.MinInt, 0},
		{stop(4096, 4096, 4096), 0, 4096}, {stop(4096, 4096, 4096), 4095, 4096}, {stop(4096, 4096, 4096), 4096, 4096}, {stop(0, 4096, 1), 0, 0}, {stop(0, 4096, 1), 4096, 4096},
		{api.Stop{Open: 10, Close: 20, Service: 5}, 3, 10}, {api.Stop{Place: math.MaxInt, Open: 10, Close: 20, Service: 5}, 15, 15},
	} {
		wantBegin(t, c.s, c.arrive, c.begin, api.OK)
		wantDepart(t, c.s, c.arrive, c.begin+c.s.Service, api.OK)
	}
}

// P8.2
func TestBeginAndDepartRefuseArrivalsBehindTheWindow(t *testing.T) {
	for _, s := range edgeStops() {
		for _, arrive := range []int{s.Close + 1, s.Close + 2, s.Close + s.Service + 1, 4097, 8193, 1<<32 + 15, math.MaxInt - 4096, math.MaxInt - 1, math.MaxInt} {
			wantBegin(t, s, arrive, 0, api.ErrWindow)
			wantDepart(t, s, arrive, 0, api.ErrWindow)
		}
	}
}

// wantFirst compares Begin and Depart with the first tick of the window that is not before the arrival.
func wantFirst(t *testing.T, s api.Stop, ticks []int, arrive int) {
	t.Helper()
	for _, tick := range ticks {
		if tick >= arrive {
			wantBegin(t, s, arrive, tick, api.OK)
			wantDepart(t, s, arrive, tick+s.Service, api.OK)
			return
		}
	}
	wantBegin(t, s, arrive, 0, api.ErrWindow)
	wantDepart(t, s, arrive, 0, api.ErrWindow)
}

// P8.2
func TestTheServiceBeginsAsSoonAsItCan(t *testing.T) {
	for _, s := range edgeStops() {
		ticks := times(s)
		for _, arrive := range arrivals(s) {
			wantFirst(t, s, ticks, arrive)
		}
	}
	for _, s := range smallStops(7) {
		for arrive, ticks := -3, times(s); arrive < 20; arrive++ {
			wantFirst(t, s, ticks, arrive)
		}
	}
	for _, s := range []api.Stop{stop(10, 20, 5), stop(0, 4096, 4096), stop(1000, 3000, 77), stop(4096, 4096, 0)} {
		for arrive, ticks := -300, times(s); arrive <= 2*api.MaxTime+300; arrive++ {
			wantFirst(t, s, ticks, arrive)
		}
	}
}

// P8.6
func TestALaterArrivalNeverDepartsEarlier(t *testing.T) {
	for _, s := range edgeStops() {
		before, missed := 0, false
		for arrive := -3; arrive <= api.MaxTime+3; arrive++ {
			depart, err := window.Depart(s, arrive)
			if err == api.OK && (depart < before || depart < arrive || missed) || err != api.OK && err != api.ErrWindow {
				t.Fatalf("Depart(%v, %d) = %d, %d after %d", s, arrive, depart, err, before)
			}
			before, missed = depart, err != api.OK
		}
		if !missed {
			t.Errorf("%v is never missed", s)
		}
	}
}
