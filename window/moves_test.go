package window_test

import (
	"math"
	"slices"
	"testing"

	"lorry/api"
	"lorry/window"
)

func wantMeet(t *testing.T, a, b, want api.Stop, wantOk bool) {
	t.Helper()
	if got, ok := window.Meet(a, b); got != want || ok != wantOk {
		t.Errorf("Meet(%v, %v) = %v, %v; want %v, %v", a, b, got, ok, want, wantOk)
	}
}

// P8.4, P8.7: in both orders, with the Place and the Service of the first stop.
func TestMeetHasItsEdges(t *testing.T) {
	for _, c := range []struct {
		a, b, both [2]int
		ok         bool
	}{
		{[2]int{10, 20}, [2]int{15, 30}, [2]int{15, 20}, true},
		{[2]int{10, 20}, [2]int{21, 30}, [2]int{}, false}, {[2]int{10, 20}, [2]int{22, 30}, [2]int{}, false}, {[2]int{10, 20}, [2]int{4096, 4096}, [2]int{}, false}, {[2]int{0, 0}, [2]int{1, 1}, [2]int{}, false}, {[2]int{0, 0}, [2]int{4096, 4096}, [2]int{}, false}, {[2]int{0, 9}, [2]int{10, 20}, [2]int{}, false},
		{[2]int{10, 20}, [2]int{20, 30}, [2]int{20, 20}, true}, {[2]int{0, 10}, [2]int{10, 10}, [2]int{10, 10}, true}, {[2]int{0, 0}, [2]int{0, 4096}, [2]int{0, 0}, true}, {[2]int{0, 4096}, [2]int{4096, 4096}, [2]int{4096, 4096}, true},
		{[2]int{10, 20}, [2]int{19, 30}, [2]int{19, 20}, true}, {[2]int{0, 2048}, [2]int{2047, 4096}, [2]int{2047, 2048}, true},
		{[2]int{10, 20}, [2]int{10, 20}, [2]int{10, 20}, true}, {[2]int{0, 0}, [2]int{0, 0}, [2]int{0, 0}, true}, {[2]int{0, 4096}, [2]int{0, 4096}, [2]int{0, 4096}, true}, {[2]int{4096, 4096}, [2]int{4096, 4096}, [2]int{4096, 4096}, true},
		{[2]int{10, 20}, [2]int{12, 18}, [2]int{12, 18}, true}, {[2]int{10, 20}, [2]int{10, 18}, [2]int{10, 18}, true}, {[2]int{10, 20}, [2]int{12, 20}, [2]int{12, 20}, true}, {[2]int{10, 20}, [2]int{15, 15}, [2]int{15, 15}, true}, {[2]int{10, 20}, [2]int{0, 4096}, [2]int{10, 20}, true},
	} {
		a := api.Stop{Place: 2, Open: c.a[0], Close: c.a[1], Service: 5}
		b := api.Stop{Place: 4, Open: c.b[0], Close: c.b[1], Service: 1}
		if !c.ok {
			wantMeet(t, a, b, api.Stop{}, false)
			wantMeet(t, b, a, api.Stop{}, false)
			continue
		}
		wantMeet(t, a, b, api.Stop{Place: 2, Open: c.both[0], Close: c.both[1], Service: 5}, true)
		wantMeet(t, b, a, api.Stop{Place: 4, Open: c.both[0], Close: c.both[1], Service: 1}, true)
	}
}

// P8.4: other places and services than those of the first stop change nothing.
func TestMeetKeepsThePlaceAndTheServiceOfTheFirstStop(t *testing.T) {
	places, services := []int{0, 1, 23, math.MaxInt}, []int{0, 1, 4095, 4096}
	for _, a := range places {
		for _, x := range services {
			for _, b := range places {
				for _, y := range services {
					first := api.Stop{Place: a, Open: 10, Close: 20, Service: x}
					wantMeet(t, first, api.Stop{Place: b, Open: 15, Close: 30, Service: y}, api.Stop{Place: a, Open: 15, Close: 20, Service: x}, true)
					wantMeet(t, first, api.Stop{Place: b, Open: 10, Close: 20, Service: y}, first, true)
					wantMeet(t, first, api.Stop{Place: b, Open: 21, Close: 30, Service: y}, api.Stop{}, false)
				}
			}
		}
	}
}

// common returns the numbers that are in both lists.
func common(a, b []int) []int {
	return slices.DeleteFunc(slices.Clone(a), func(x int) bool { return !slices.Contains(b, x) })
}

// P8.4: the ticks of the result are those of both windows.
func TestMeetHasTheTicksOfBothWindows(t *testing.T) {
	all := append(windows(0, 1, 2, 3, 4, 5, 6, 7), windows(4090, 4091, 4095, 4096)...)
	for _, v := range all {
		for _, w := range all {
			a, b := stop(v[0], v[1], 5), api.Stop{Open: w[0], Close: w[1], Service: 9}
			both := common(times(a), times(b))
			if len(both) == 0 {
				wantMeet(t, a, b, api.Stop{}, false)
			} else {
				wantMeet(t, a, b, stop(both[0], both[len(both)-1], 5), true)
			}
		}
	}
}

// P8.7
func TestMeetDoesNotDependOnTheOrder(t *testing.T) {
	all := edgeStops()
	for i, a := range all {
		a.Place = 7
		for _, b := range all[:i+1] {
			first, ok := window.Meet(a, b)
			second, also := window.Meet(b, a)
			if ok != also || first.Open != second.Open || first.Close != second.Close {
				t.Errorf("Meet(%v, %v) = %v, %v, and %v, %v in the other order", a, b, first, ok, second, also)
			}
			if ok && window.Check(first) != api.OK {
				t.Errorf("Meet(%v, %v) = %v", a, b, first)
			}
		}
	}
}

func wantShift(t *testing.T, s api.Stop, n int, want api.Stop, wantErr api.Errno) {
	t.Helper()
	if got, err := window.Shift(s, n); got != want || err != wantErr {
		t.Errorf("Shift(%v, %d) = %v, %d; want %v, %d", s, n, got, err, want, wantErr)
	}
}

// P8.5
func TestShiftHasItsExamples(t *testing.T) {
	for _, c := range []struct{ open, end, n, newOpen, newEnd int }{
		{10, 20, 0, 10, 20}, {10, 20, 1, 11, 21}, {10, 20, -1, 9, 19}, {10, 20, 100, 110, 120}, {10, 20, -10, 0, 10}, {10, 20, 4076, 4086, 4096},
		{0, 0, 0, 0, 0}, {0, 0, 4096, 4096, 4096}, {4096, 4096, -4096, 0, 0}, {4096, 4096, 0, 4096, 4096}, {0, 4096, 0, 0, 4096}, {0, 4095, 1, 1, 4096}, {1, 4096, -1, 0, 4095}, {7, 7, -7, 0, 0}, {7, 7, 4089, 4096, 4096},
	} {
		for _, service := range []int{0, 5, 4096} {
			wantShift(t, stop(c.open, c.end, service), c.n, stop(c.newOpen, c.newEnd, service), api.OK)
			wantShift(t, api.Stop{Open: c.open, Close: c.end, Service: service}, c.n, api.Stop{Open: c.newOpen, Close: c.newEnd, Service: service}, api.OK)
		}
	}
}

// P8.5
func TestShiftRefusesWindowsOutsideOfTheDay(t *testing.T) {
	for _, s := range edgeStops() {
		for _, n := range []int{-s.Open - 1, -s.Open - 2, -4097, -1 << 32, math.MinInt + 1, math.MinInt, 4097 - s.Close, 4098 - s.Close, 4097, 1<<32 + 1, math.MaxInt - 4096, math.MaxInt - 1, math.MaxInt} {
			wantShift(t, s, n, api.Stop{}, api.ErrArg)
		}
	}
}

// wantMoved compares Shift with the window whose ticks are moved; none of them can be moved by more than MaxTime.
func wantMoved(t *testing.T, s api.Stop, n int) {
	t.Helper()
	fits := -api.MaxTime <= n && n <= api.MaxTime
	for _, tick := range times(s) {
		fits = fits && 0 <= tick+n && tick+n <= api.MaxTime
	}
	if fits {
		wantShift(t, s, n, api.Stop{Place: s.Place, Open: s.Open + n, Close: s.Close + n, Service: s.Service}, api.OK)
	} else {
		wantShift(t, s, n, api.Stop{}, api.ErrArg)
	}
}

// P8.5
func TestShiftMovesEachTick(t *testing.T) {
	for _, s := range edgeStops() {
		for _, n := range around(-s.Open, -s.Close, api.MaxTime-s.Close, api.MaxTime-s.Open, 7) {
			wantMoved(t, s, n)
		}
	}
	for _, s := range []api.Stop{stop(10, 20, 5), stop(0, 4096, 1), stop(2040, 2050, 4096), stop(4090, 4096, 0)} {
		for n := -api.MaxTime - 300; n <= api.MaxTime+300; n++ {
			wantMoved(t, s, n)
		}
	}
}

// P8.5: a stop that is none stays as it is, however far it is moved.
func TestShiftLeavesAStopThatIsNone(t *testing.T) {
	for _, n := range around(0, 99999) {
		wantShift(t, api.Stop{Place: -1}, n, api.Stop{Place: -1}, api.OK)
		wantShift(t, api.Stop{Place: -1, Open: 10, Close: 20, Service: 5}, n, api.Stop{Place: -1, Open: 10, Close: 20, Service: 5}, api.OK)
	}
}

// P8.7
func TestShiftBackReturnsTheOriginalStop(t *testing.T) {
	for _, s := range append(edgeStops(), smallStops(5)...) {
		for n := -api.MaxTime - 1; n <= api.MaxTime+1; n++ {
			moved, err := window.Shift(s, n)
			if err != api.OK {
				continue
			}
			if window.Check(moved) != api.OK {
				t.Errorf("Shift(%v, %d) = %v", s, n, moved)
			}
			wantShift(t, moved, -n, s, api.OK)
		}
	}
}

// R1: whatever the arguments are; R6: the same call has the same results.
func TestAllCallsEnd(t *testing.T) {
	some := []int{math.MinInt, -4097, -1, 0, 1, 4096, 4097, math.MaxInt}
	for _, place := range []int{math.MinInt, -2, -1, 0, math.MaxInt} {
		for _, open := range some {
			for _, end := range some {
				for _, service := range some {
					callAll(t, api.Stop{Place: place, Open: open, Close: end, Service: service})
				}
			}
		}
	}
}

// callAll calls each function twice with a stop and any numbers.
func callAll(t *testing.T, s api.Stop) {
	t.Helper()
	for _, x := range anyInts() {
		other := api.Stop{Place: -x, Open: x, Close: x + 1, Service: -x}
		first, second := results(s, other, x), results(s, other, x)
		if first != second {
			t.Errorf("%v and %d: %v, then %v", s, x, first, second)
		}
	}
}

// results returns what all functions return.
func results(s, other api.Stop, x int) [10]any {
	var r [10]any
	r[0] = window.Check(s)
	r[1], r[2] = window.Begin(s, x)
	r[3], r[4] = window.Depart(s, x)
	r[5], r[6] = window.Latest(s, x)
	r[7], _ = window.Meet(s, other)
	r[8], _ = window.Meet(other, s)
	r[9], _ = window.Shift(s, x)
	return r
}
