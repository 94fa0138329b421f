package travel_test

import (
	"math"
	"math/big"
	"math/rand"
	"slices"
	"strconv"
	"testing"

	"lorry/api"
	"lorry/travel"
)

func wantFaults(t *testing.T, l []api.Point, want ...api.Fault) {
	t.Helper()
	if got := travel.Check(l); !slices.Equal(got, want) {
		t.Errorf("Check(%v) = %v; want %v", l, got, want)
	}
}

func size() api.Fault { return api.Fault{Err: api.ErrSize} }

func arg(at string) api.Fault { return api.Fault{Err: api.ErrArg, At: at} }

func fifo(at string) api.Fault { return api.Fault{Err: api.ErrFifo, At: at} }

// P7.1
func TestCheckAcceptsTravelFunctions(t *testing.T) {
	r := rand.New(rand.NewSource(71))
	for _, l := range append(small(3, 4), samples(r, 2000)...) {
		wantFaults(t, l)
	}
}

// P7.1: the limits of the number of points.
func TestCheckCountsThePoints(t *testing.T) {
	wantFaults(t, nil, size())
	wantFaults(t, []api.Point{}, size())
	for count := 1; count <= 60; count++ {
		if count <= 16 {
			wantFaults(t, row(count))
		} else {
			wantFaults(t, row(count), size())
		}
	}
}

// P7.1: the limits of T and A.
func TestCheckHasTheLimitsOfPoints(t *testing.T) {
	for _, tick := range []int{0, 1, 2048, 4095, 4096} {
		for _, a := range []int{tick, tick + 1, tick + 4095, tick + 4096} {
			wantFaults(t, points(tick, a))
		}
		for _, a := range []int{tick - 1, tick + 4097, -1, math.MinInt, math.MaxInt} {
			wantFaults(t, points(tick, a), arg("0"))
		}
	}
	for _, tick := range []int{-1, 4097, -4096, math.MinInt, math.MaxInt} {
		for _, a := range []int{tick - 1, tick, tick + 1, tick + 4096, tick + 4097, 0, 4096} {
			wantFaults(t, points(tick, a), arg("0"))
		}
	}
}

// P7.1: T must ascend, and A must not fall.
func TestCheckComparesEachPointWithTheOneBefore(t *testing.T) {
	wantFaults(t, points(0, 5, 0, 4), fifo("1"))
	wantFaults(t, points(0, 5, 0, 5), fifo("1"))
	wantFaults(t, points(0, 5, 0, 6), fifo("1"))
	wantFaults(t, points(3, 8, 2, 8), fifo("1"))
	wantFaults(t, points(3, 8, 2, 7), fifo("1"))
	wantFaults(t, points(0, 5, 1, 4), fifo("1"))
	wantFaults(t, points(0, 5, 1, 5))
	wantFaults(t, points(0, 5, 1, 6))
	wantFaults(t, points(0, 4096, 1, 4096, 4096, 4096))
	wantFaults(t, points(0, 9, 1, 9, 2, 8), fifo("2"))
	wantFaults(t, points(0, 9, 1, 8, 2, 8), fifo("1"))
	// Each point is compared with the one before it alone.
	wantFaults(t, points(5, 9, 2, 6, 3, 7), fifo("1"))
	wantFaults(t, points(5, 9, 2, 9, 3, 8, 4, 8), fifo("1"), fifo("2"))
	wantFaults(t, points(5, 9, 5, 9, 5, 9), fifo("1"), fifo("2"))
}

// P7.1, R3: all violations, point by point.
func TestCheckReturnsAllFaultsInOrder(t *testing.T) {
	wantFaults(t, points(-1, 5, 3, 2), arg("0"), arg("1"), fifo("1"))
	wantFaults(t, points(-1, -2, -1, -3), arg("0"), arg("1"), fifo("1"))
	wantFaults(t, points(7, 6, 8, 9), arg("0"))
	wantFaults(t, points(7, 9, 6, 5), arg("1"), fifo("1"))
	wantFaults(t, points(4097, 4097, 4096, 4096), arg("0"), fifo("1"))
	wantFaults(t, points(9, 9000, 8, 7, 10, 6, 11, 20), arg("0"), arg("1"), fifo("1"), arg("2"), fifo("2"))
	wantFaults(t, points(math.MaxInt, math.MinInt, math.MinInt, math.MaxInt, 0, 0), arg("0"), arg("1"), fifo("1"), fifo("2"))
	l := row(17)
	l[2].T, l[9].A, l[10].A, l[16].A = -3, 15, 9, 6000
	wantFaults(t, l, size(), arg("2"), fifo("2"), arg("10"), fifo("10"), arg("16"))
	l = append(row(120), api.Point{T: 119, A: 10000})
	wantFaults(t, l, size(), arg("120"), fifo("120"))
	wantFaults(t, make([]api.Point, 18)[:1])
	wantFaults(t, make([]api.Point, 3), fifo("1"), fifo("2"))
}

// isWithin reports whether a number is from least to least + width.
func isWithin(x, least, width int) bool {
	d := new(big.Int).Sub(big.NewInt(int64(x)), big.NewInt(int64(least)))
	return d.Sign() >= 0 && d.Cmp(big.NewInt(int64(width))) <= 0
}

// expectedFaults follows the rules of the chapter one by one.
func expectedFaults(l []api.Point) []api.Fault {
	var faults []api.Fault
	if !isWithin(len(l), 1, 15) {
		faults = append(faults, size())
	}
	for i, p := range l {
		if !isWithin(p.T, 0, 4096) || !isWithin(p.A, p.T, 4096) {
			faults = append(faults, arg(strconv.Itoa(i)))
		}
		if i > 0 && !(p.T > l[i-1].T && p.A >= l[i-1].A) {
			faults = append(faults, fifo(strconv.Itoa(i)))
		}
	}
	return faults
}

// edgePoints returns points with numbers at the limits, and far beyond them.
func edgePoints() []api.Point {
	var l []api.Point
	for _, t := range []int{math.MinInt, -1, 0, 1, 4096, 4097, math.MaxInt} {
		for _, a := range []int{math.MinInt, -1, 0, 1, t - 1, t, t + 4096, t + 4097, math.MaxInt} {
			l = append(l, api.Point{T: t, A: a})
		}
	}
	return l
}

// P7.1: for any points.
func TestCheckFollowsItsRules(t *testing.T) {
	edges := edgePoints()
	for _, p := range edges {
		for _, q := range edges {
			l := []api.Point{p, q}
			wantFaults(t, l, expectedFaults(l)...)
		}
	}
	r := rand.New(rand.NewSource(72))
	for i := range 6000 {
		l := make([]api.Point, i%24)
		for k := range l {
			l[k] = edges[r.Intn(len(edges))]
		}
		wantFaults(t, l, expectedFaults(l)...)
	}
}

// P7.1: a travel function in which one number is changed.
func TestCheckLooksAtEachNumber(t *testing.T) {
	r := rand.New(rand.NewSource(73))
	for range 3000 {
		l := drawn(r)
		k := r.Intn(len(l))
		if r.Intn(2) == 0 {
			l[k].T += r.Intn(9) - 4
		} else {
			l[k].A += r.Intn(9) - 4
		}
		wantFaults(t, l, expectedFaults(l)...)
	}
}
