package window_test

import (
	"math"
	"slices"
	"testing"

	"lorry/api"
	"lorry/window"
)

func wantCheck(t *testing.T, s api.Stop, want api.Errno) {
	t.Helper()
	if got := window.Check(s); got != want {
		t.Errorf("Check(%v) = %d; want %d", s, got, want)
	}
}

// P8.1: there is no greatest Place; whether a place exists, other layers check.
func TestCheckLooksAtThePlace(t *testing.T) {
	for _, place := range []int{0, 1, 2, api.MaxPlaces - 1, api.MaxPlaces, 4097, 1 << 32, math.MaxInt} {
		wantCheck(t, api.Stop{Place: place}, api.OK)
		wantCheck(t, api.Stop{Place: place, Open: 10, Close: 20, Service: 5}, api.OK)
		wantCheck(t, api.Stop{Place: place, Open: 20, Close: 10, Service: 5}, api.ErrArg)
	}
	for _, place := range []int{-2, -3, -24, -4097, -1 << 32, math.MinInt} {
		wantCheck(t, api.Stop{Place: place}, api.ErrArg)
		wantCheck(t, api.Stop{Place: place, Open: 10, Close: 20, Service: 5}, api.ErrArg)
	}
}

// P8.1: a stop that is none has no window and no service.
func TestCheckOfAStopThatIsNone(t *testing.T) {
	wantCheck(t, api.Stop{Place: -1}, api.OK)
	for _, s := range []api.Stop{
		{Open: 1}, {Close: 1}, {Service: 1}, {Open: -1}, {Close: -1}, {Service: -1},
		{Open: 1, Close: 1}, {Open: -1, Close: 1}, {Open: 10, Close: 20, Service: 5}, {Close: 4096}, {Service: 4096}, {Close: 4096, Service: 4096}, {Open: math.MinInt}, {Close: math.MaxInt}, {Service: 1 << 32},
	} {
		s.Place = -1
		wantCheck(t, s, api.ErrArg)
	}
}

// P8.1
func TestCheckHasItsEdges(t *testing.T) {
	for _, c := range []struct {
		open, end, service int
		want               api.Errno
	}{
		{0, 0, 0, api.OK}, {0, 4096, 0, api.OK}, {4096, 4096, 0, api.OK}, {0, 0, 4096, api.OK}, {4096, 4096, 4096, api.OK}, {0, 4096, 4096, api.OK}, {10, 20, 5, api.OK}, {10, 20, 100, api.OK},
		{-1, 0, 0, api.ErrArg}, {-1, 20, 5, api.ErrArg}, {-1, -1, 0, api.ErrArg}, {0, -1, 0, api.ErrArg}, {0, 20, -1, api.ErrArg}, {0, 0, -1, api.ErrArg},
		{0, 4097, 0, api.ErrArg}, {4096, 4097, 0, api.ErrArg}, {4097, 4097, 0, api.ErrArg}, {4097, 4096, 0, api.ErrArg}, {0, 20, 4097, api.ErrArg}, {0, 0, 4097, api.ErrArg},
		{9, 10, 5, api.OK}, {10, 10, 5, api.OK}, {11, 10, 5, api.ErrArg}, {0, 1, 0, api.OK}, {1, 1, 0, api.OK}, {1, 0, 0, api.ErrArg}, {4095, 4096, 0, api.OK}, {4095, 4095, 0, api.OK}, {4096, 4095, 0, api.ErrArg}, {4096, 0, 0, api.ErrArg},
	} {
		wantCheck(t, stop(c.open, c.end, c.service), c.want)
		wantCheck(t, api.Stop{Open: c.open, Close: c.end, Service: c.service}, c.want)
	}
}

// P8.1: for any numbers, which are compared by their places in an ascending list.
func TestCheckAcceptsJustRightStops(t *testing.T) {
	all := anyInts()
	isRight := map[int]bool{0: true, 1: true, 2: true, 2048: true, 4095: true, 4096: true}
	isPlace := map[int]bool{0: true, 1: true, 4097: true, math.MaxInt: true}
	for _, place := range []int{math.MinInt, -2, -1, 0, 1, 4097, math.MaxInt} {
		for i, open := range all {
			for j, end := range all {
				for k, service := range all {
					want := api.ErrArg
					if isPlace[place] && isRight[open] && isRight[end] && isRight[service] && i <= j || place == -1 && all[i]|all[j]|all[k] == 0 {
						want = api.OK
					}
					wantCheck(t, api.Stop{Place: place, Open: open, Close: end, Service: service}, want)
				}
			}
		}
	}
}

// P8.1
func TestCheckAcceptsEachTick(t *testing.T) {
	for x := -300; x <= api.MaxTime+300; x++ {
		want := api.ErrArg
		if 0 <= x && x <= 4096 {
			want = api.OK
		}
		wantCheck(t, stop(x, x, 7), want)
		wantCheck(t, stop(0, x, 7), want)
		wantCheck(t, stop(x, 4096, 7), want)
		wantCheck(t, stop(10, 20, x), want)
		wantCheck(t, stop(x+1, x, 7), api.ErrArg)
		if x != 0 {
			wantCheck(t, api.Stop{Place: -1, Open: x}, api.ErrArg)
			wantCheck(t, api.Stop{Place: -1, Close: x}, api.ErrArg)
			wantCheck(t, api.Stop{Place: -1, Service: x}, api.ErrArg)
		}
	}
}

// P8.1: the stops with which the other functions are tested.
func TestCheckAcceptsTheStopsOfTheTests(t *testing.T) {
	for _, s := range slices.Concat(edgeStops(), smallStops(7)) {
		wantCheck(t, s, api.OK)
	}
}
