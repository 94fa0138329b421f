package travel_test

import (
	"cmp"
	"math"
	"math/rand"
	"slices"
	"testing"

	"lorry/api"
	"lorry/travel"
)

// wantSlower compares a result with what is expected; with an error there must be no points.
func wantSlower(t *testing.T, l []api.Point, from, n int, want []api.Point, wantErr api.Errno) {
	t.Helper()
	got, err := travel.Slower(l, from, n)
	if err != wantErr || !slices.Equal(got, want) {
		t.Errorf("Slower(%v, %d, %d) = %v, %d; want %v, %d", l, from, n, got, err, want, wantErr)
	}
}

// P7.3
func TestSlowerHasItsExamples(t *testing.T) {
	for _, c := range []struct {
		l       []api.Point
		from, n int
		want    []api.Point
	}{
		{points(0, 5, 20, 35), 10, 3, points(0, 5, 9, 19, 10, 23, 20, 38)},
		{points(5, 9), 0, 2, points(0, 6, 5, 11)},
		{points(5, 9), 6, 2, points(5, 9, 6, 12)},
		{points(5, 9), 5, 2, points(4, 8, 5, 11)},
		{points(5, 9), 4, 2, points(3, 7, 4, 10, 5, 11)},
		{points(5, 9), 7, 2, points(5, 9, 6, 10, 7, 13)},
		{points(5, 9), 8, 2, points(5, 9, 7, 11, 8, 14)},
		{points(5, 9), 1, 2, points(0, 4, 1, 7, 5, 11)},
		{points(5, 9), 4096, 1, points(5, 9, 4095, 4099, 4096, 4101)},
		{points(0, 5), 0, 7, points(0, 12)},
		{points(0, 5), 1, 7, points(0, 5, 1, 13)},
		{points(0, 5, 20, 35), 0, 3, points(0, 8, 20, 38)},
		{points(0, 5, 20, 35), 1, 3, points(0, 5, 1, 10, 20, 38)},
		{points(0, 5, 20, 35), 2, 3, points(0, 5, 1, 7, 2, 11, 20, 38)},
		{points(0, 5, 20, 35), 19, 3, points(0, 5, 18, 32, 19, 37, 20, 38)},
		{points(0, 5, 20, 35), 20, 3, points(0, 5, 19, 34, 20, 38)},
		{points(0, 5, 20, 35), 21, 3, points(0, 5, 20, 35, 21, 39)},
		{points(0, 5, 20, 35), 22, 3, points(0, 5, 20, 35, 21, 36, 22, 40)},
		{points(0, 5, 20, 35), 10, 0, points(0, 5, 9, 19, 10, 20, 20, 35)},
		{points(0, 5, 20, 35), 0, 0, points(0, 5, 20, 35)},
		{points(0, 10, 10, 10), 5, 1, points(0, 10, 4, 10, 5, 11, 10, 11)},
		{points(4096, 4096), 4096, 4096, points(4095, 4095, 4096, 8192)},
		{points(4096, 4096), 0, 4096, points(0, 4096, 4096, 8192)},
		{points(4096, 4096), 1, 9, points(0, 0, 1, 10, 4096, 4105)},
		{points(4, 6, 6, 6, 9, 30, 10, 30), 7, 100, points(4, 6, 6, 6, 7, 114, 9, 130, 10, 130)},
		{points(4, 6, 6, 6, 9, 30, 10, 30), 6, 100, points(4, 6, 5, 6, 6, 106, 9, 130, 10, 130)},
		{points(4, 6, 6, 6, 9, 30, 10, 30), 10, 100, points(4, 6, 6, 6, 9, 30, 10, 130)},
		{points(4, 6, 6, 6, 9, 30, 10, 30), 2, 100, points(1, 3, 2, 104, 4, 106, 6, 106, 9, 130, 10, 130)},
	} {
		wantSlower(t, c.l, c.from, c.n, c.want, api.OK)
	}
}

// P7.3
func TestSlowerRefusesWrongArguments(t *testing.T) {
	for _, l := range notTravel() {
		for _, from := range []int{-1, 0, 5, 4096, 4097} {
			for _, n := range []int{-1, 0, 5, 4096, 4097} {
				wantSlower(t, l, from, n, nil, api.ErrArg)
			}
		}
	}
	for _, l := range ordinary() {
		for _, x := range []int{-1, -2, -4096, 4097, 8192, math.MinInt, math.MaxInt} {
			wantSlower(t, l, x, 0, nil, api.ErrArg)
			wantSlower(t, l, 7, x, nil, api.ErrArg)
			wantSlower(t, l, x, x, nil, api.ErrArg)
		}
	}
}

// P7.3: with a delay in the middle there can be two points more.
func TestSlowerHasAtMostMaxPoints(t *testing.T) {
	apart := func(count int) []api.Point {
		l := make([]api.Point, count)
		for i := range l {
			l[i] = api.Point{T: 10 * i, A: 10*i + 5}
		}
		return l
	}
	for _, c := range []struct{ count, from, points int }{
		{14, 35, 16}, {15, 35, 17}, {16, 35, 18}, {14, 999, 16}, {15, 999, 17}, {16, 999, 18},
		{15, 40, 16}, {16, 40, 17}, {15, 41, 16}, {16, 41, 17}, {15, 42, 17}, {15, 39, 17},
		{16, 0, 16}, {16, 1, 17}, {15, 1, 16}, {15, 2, 17}, {15, 140, 16}, {16, 150, 17}, {16, 151, 17},
	} {
		if c.points > 16 {
			wantSlower(t, apart(c.count), c.from, 6, nil, api.ErrSize)
		} else if got, err := travel.Slower(apart(c.count), c.from, 6); err != api.OK || len(got) != c.points {
			t.Errorf("%d points from %d: %v, %d", c.count, c.from, got, err)
		}
	}
	// Where T are next to each other, no point is added.
	dense := row(16)
	for from := 1; from < 16; from++ {
		if got, err := travel.Slower(dense, from, 6); err != api.OK || len(got) != 16 {
			t.Errorf("%v, %d", got, err)
		}
	}
	wantSlower(t, dense, 17, 6, nil, api.ErrSize)
}

// P7.3: no A may be greater than its T + MaxTime, be it of the new point or of one behind it.
func TestSlowerHasTheLimitOfArrivals(t *testing.T) {
	wantSlower(t, points(5, 9), 6, 4092, points(5, 9, 6, 4102), api.OK)
	wantSlower(t, points(5, 9), 6, 4093, nil, api.ErrArg)
	wantSlower(t, points(5, 9), 6, 4096, nil, api.ErrArg)
	wantSlower(t, points(5, 9), 0, 4092, points(0, 4096, 5, 4101), api.OK)
	wantSlower(t, points(5, 9), 0, 4093, nil, api.ErrArg)
	wantSlower(t, points(0, 5, 20, 35), 10, 4081, points(0, 5, 9, 19, 10, 4101, 20, 4116), api.OK)
	wantSlower(t, points(0, 5, 20, 35), 10, 4082, nil, api.ErrArg)
	wantSlower(t, points(0, 35, 20, 35), 10, 4071, points(0, 35, 9, 35, 10, 4106, 20, 4106), api.OK)
	wantSlower(t, points(0, 35, 20, 35), 10, 4072, nil, api.ErrArg)
	wantSlower(t, points(0, 4096, 4096, 4096), 2048, 2048, points(0, 4096, 2047, 4096, 2048, 6144, 4096, 6144), api.OK)
	wantSlower(t, points(0, 4096, 4096, 4096), 2048, 2049, nil, api.ErrArg)
	wantSlower(t, points(0, 4096), 0, 0, points(0, 4096), api.OK)
	wantSlower(t, points(0, 4096), 0, 1, nil, api.ErrArg)
	wantSlower(t, points(4096, 8192), 4096, 0, points(4095, 8191, 4096, 8192), api.OK)
	wantSlower(t, points(4096, 8192), 4096, 1, nil, api.ErrArg)
	wantSlower(t, points(0, 0, 1, 1), 0, 4096, points(0, 4096, 1, 4097), api.OK)
	// Only the point in the middle of three that are delayed has an A that is too great.
	wantSlower(t, points(0, 0, 7, 4000, 4000, 4000), 7, 103, points(0, 0, 6, 3429, 7, 4103, 4000, 4103), api.OK)
	wantSlower(t, points(0, 0, 7, 4000, 4000, 4000), 6, 103, points(0, 0, 5, 2858, 6, 3532, 7, 4103, 4000, 4103), api.OK)
	wantSlower(t, points(0, 0, 7, 4000, 4000, 4000), 6, 104, nil, api.ErrArg)
	// What is before the delay stays at its limit.
	wantSlower(t, points(0, 4096, 100, 4096), 100, 9, points(0, 4096, 99, 4096, 100, 4105), api.OK)
}

// P7.3, R2: ErrArg of arguments, then ErrSize, then ErrArg of arrivals.
func TestSlowerReturnsTheErrorThatIsNamedFirst(t *testing.T) {
	full := row(16)
	wantSlower(t, full, 50, 4096, nil, api.ErrSize)
	wantSlower(t, full, 50, 4092, nil, api.ErrSize)
	wantSlower(t, full, 50, 4097, nil, api.ErrArg)
	wantSlower(t, full, 4097, 4096, nil, api.ErrArg)
	wantSlower(t, full, -1, 4096, nil, api.ErrArg)
	wantSlower(t, full, 50, -1, nil, api.ErrArg)
	wantSlower(t, full, 0, 4092, nil, api.ErrArg)
	wantSlower(t, row(17), 50, 1, nil, api.ErrArg)
	wantSlower(t, append(row(15), api.Point{T: 14, A: 19}), 50, 1, nil, api.ErrArg)
}

// expectedSlower collects the points by their T, and sorts them; all has the arrivals of l.
func expectedSlower(l []api.Point, all []int, from, n int) ([]api.Point, api.Errno) {
	if from < 0 || from > 4096 || n < 0 || n > 4096 {
		return nil, api.ErrArg
	}
	ticks := map[int]bool{from: true, from - 1: from > 0}
	for _, p := range l {
		ticks[p.T] = true
	}
	var result []api.Point
	for t, isThere := range ticks {
		switch {
		case isThere && t < from:
			result = append(result, api.Point{T: t, A: all[t]})
		case isThere:
			result = append(result, api.Point{T: t, A: all[t] + n})
		}
	}
	slices.SortFunc(result, func(p, q api.Point) int { return cmp.Compare(p.T, q.T) })
	if len(result) > 16 {
		return nil, api.ErrSize
	}
	if slices.ContainsFunc(result, func(p api.Point) bool { return p.A-p.T > 4096 }) {
		return nil, api.ErrArg
	}
	return result, api.OK
}

// someDelays returns numbers of ticks at the limits, and those by which an arrival just comes to its limit.
func someDelays(r *rand.Rand, l []api.Point) []int {
	least := api.MaxTime
	for _, p := range l {
		least = min(least, p.T+api.MaxTime-p.A)
	}
	return []int{-1, 0, 1, least - 1, least, least + 1, 4096, 4097, r.Intn(50), r.Intn(4097)}
}

// P7.3
func TestSlowerHasThePointsOfTheChapter(t *testing.T) {
	r := rand.New(rand.NewSource(78))
	for _, l := range samples(r, 20) {
		all, delays := arrivals(l, api.MaxTime), someDelays(r, l)
		for from := -1; from <= api.MaxTime+1; from++ {
			n := delays[r.Intn(len(delays))]
			want, err := expectedSlower(l, all, from, n)
			wantSlower(t, l, from, n, want, err)
		}
	}
}

// P7.3: delays at the points, and next to them.
func TestSlowerHasItsEdges(t *testing.T) {
	r := rand.New(rand.NewSource(79))
	for _, l := range append(small(3, 4), samples(r, 400)...) {
		all := arrivals(l, api.MaxTime)
		ticks := []int{-1, 0, 1, api.MaxTime, api.MaxTime + 1}
		for _, p := range l {
			ticks = append(ticks, p.T-2, p.T-1, p.T, p.T+1, p.T+2)
		}
		for _, from := range ticks {
			for _, n := range someDelays(r, l) {
				want, err := expectedSlower(l, all, from, n)
				wantSlower(t, l, from, n, want, err)
			}
		}
	}
}

// checkSlower checks the law for a result: at its points the arrivals are exact, elsewhere they differ by at most the tick of rounding.
func checkSlower(t *testing.T, l, slower []api.Point, from, n int) {
	t.Helper()
	if faults := travel.Check(slower); len(faults) > 0 {
		t.Errorf("Slower(%v, %d, %d) = %v, with the faults %v", l, from, n, slower, faults)
	}
	for departure := range api.MaxTime + 1 {
		want := travel.Arrive(l, departure)
		if departure >= from {
			want += n
		}
		got := travel.Arrive(slower, departure)
		isPoint := slices.Contains(slower, api.Point{T: departure, A: got})
		if got != want && (isPoint || got != want+1) {
			t.Errorf("Slower(%v, %d, %d) = %v arrives at %d for %d; want %d", l, from, n, slower, got, departure, want)
		}
	}
}

// P7.3
func TestSlowerIsATravelFunctionWithTheDelay(t *testing.T) {
	r, checked := rand.New(rand.NewSource(80)), 0
	for checked < 300 {
		l := drawn(r)
		from := []int{l[r.Intn(len(l))].T, r.Intn(api.MaxTime + 1), max(0, l[0].T-r.Intn(3))}[r.Intn(3)]
		n := []int{0, r.Intn(9), r.Intn(2000)}[r.Intn(3)]
		slower, err := travel.Slower(l, from, n)
		if err == api.OK {
			checkSlower(t, l, slower, from, n)
			checked++
		}
	}
}

// P7.3: arrivals in between are rounded anew.
func TestSlowerRoundsAnew(t *testing.T) {
	l := points(0, 0, 5, 6)
	wantSlower(t, l, 4, 0, points(0, 0, 3, 4, 4, 5, 5, 6), api.OK)
	wantArrive(t, l, 2, 3)
	wantArrive(t, points(0, 0, 3, 4, 4, 5, 5, 6), 2, 3)
	l = points(0, 0, 5, 7)
	wantSlower(t, l, 4, 0, points(0, 0, 3, 5, 4, 6, 5, 7), api.OK)
	wantArrive(t, l, 2, 3)
	wantArrive(t, points(0, 0, 3, 5, 4, 6, 5, 7), 2, 4)
}
