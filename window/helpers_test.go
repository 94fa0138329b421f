package window_test

import (
	"math"
	"testing"

	"lorry/api"
)

// anyInts returns ints of all sizes, ascending; those behind MaxTime look like ticks if they are cut to fewer bits.
func anyInts() []int {
	return []int{math.MinInt, math.MinInt + 1, -1 << 32, -4097, -4096, -2, -1, 0, 1, 2, 2048, 4095, 4096, 4097, 8192, 8193, 1<<32 + 15, math.MaxInt - 4096, math.MaxInt - 1, math.MaxInt}
}

// stop returns a stop with a Place that is not that of the zero stop.
func stop(open, end, service int) api.Stop {
	return api.Stop{Place: 2, Open: open, Close: end, Service: service}
}

// windows returns all windows whose ends are two of some ascending ticks, or the same one.
func windows(ticks ...int) [][2]int {
	var l [][2]int
	for i, open := range ticks {
		for _, end := range ticks[i:] {
			l = append(l, [2]int{open, end})
		}
	}
	return l
}

// stops returns the stops with some windows, and each service.
func stops(windows [][2]int, services ...int) []api.Stop {
	var l []api.Stop
	for _, w := range windows {
		for _, service := range services {
			l = append(l, stop(w[0], w[1], service))
		}
	}
	return l
}

// edgeStops returns right stops with windows and services at the limits, and ordinary ones.
func edgeStops() []api.Stop {
	return stops(windows(0, 1, 2, 10, 20, 2048, 4095, 4096), 0, 1, 5, 4095, 4096)
}

// smallStops returns all right stops with ticks below width.
func smallStops(width int) []api.Stop {
	var ticks []int
	for t := range width {
		ticks = append(ticks, t)
	}
	return stops(windows(ticks...), ticks...)
}

// times returns the ticks of a window.
func times(s api.Stop) []int {
	var l []int
	for t := range api.MaxTime + 1 {
		if s.Open <= t && t <= s.Close {
			l = append(l, t)
		}
	}
	return l
}

// around returns numbers next to each of some others, and ints of all sizes.
func around(numbers ...int) []int {
	l := anyInts()
	for _, x := range numbers {
		l = append(l, x-2, x-1, x, x+1, x+2)
	}
	return l
}

// arrivals returns the arrivals at which something can change, and others.
func arrivals(s api.Stop) []int {
	return around(s.Open, (s.Open+s.Close)/2, s.Close, s.Open+s.Service, s.Close+s.Service)
}

// departures returns the departures at which something can change, and others.
func departures(s api.Stop) []int {
	return around(s.Open, s.Close, s.Open+s.Service, (s.Open+s.Close)/2+s.Service, s.Close+s.Service)
}

// wantTick compares a result with what is expected; with an error it must be 0.
func wantTick(t *testing.T, what string, s api.Stop, x, got int, err api.Errno, want int, wantErr api.Errno) {
	t.Helper()
	if got != want || err != wantErr {
		t.Errorf("%s(%v, %d) = %d, %d; want %d, %d", what, s, x, got, err, want, wantErr)
	}
}
