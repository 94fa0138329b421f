package slack_test

import (
	"fmt"
	"testing"

	"lorry/api"
	"lorry/internal/sample"
)

// single is the example of the chapter: a visit with the window from 0 to 50, at which the vehicle arrives at 20.
func single(t *testing.T) trip {
	x := sample.Town("0>1 5m 20, 1>0 6m 20", "0>0 0-4096 4096/0", "- 1@0-50+0")
	return along(t, x, "A", "--", "0 20/20/20 40 11m")
}

// P19.1, P19.2: the example of the chapter.
func TestTheExample(t *testing.T) {
	a := single(t)
	a.wantSlack(t, 30, 4056)
	a.wantAfter(t, 0, 0, "0 20/20/20 40 11m")
	a.wantAfter(t, 0, 1, "0 21/21/21 41 11m")
	a.wantAfter(t, 0, 30, "0 50/50/50 70 11m")
	a.wantAfterError(t, 0, 31, api.ErrWindow)
	a.wantAfter(t, 1, 4056, "0 20/20/20 4096 11m")
	a.wantAfterError(t, 1, 4057, api.ErrClose)
}

// P19.1: which visits and delays there are.
func TestAfterLimitsItsArguments(t *testing.T) {
	a := along(t, ring("0-90 90/5", "1@0-80+1 2@0-80+2, - 3@0-80+3"), "aAB", "----", "0 10/10/11 21/21/23 33/33/36 46 10m")
	for _, n := range sample.Ints() {
		if n < 0 || n > 3 {
			a.wantAfterError(t, n, 0, api.ErrArg)
			a.wantAfterError(t, n, 4096, api.ErrArg)
		}
		for at := range 4 {
			switch {
			case n < 0 || n > 4096:
				a.wantAfterError(t, at, n, api.ErrArg)
			case n > 44 && at < 3:
				a.wantAfterError(t, at, n, api.ErrWindow)
			case n > 44:
				a.wantAfterError(t, at, n, api.ErrClose)
			}
		}
	}
	a.wantAfter(t, 0, 1, "0 11/11/12 22/22/24 34/34/37 47 10m")
	a.wantAfter(t, 1, 1, "0 10/10/11 22/22/24 34/34/37 47 10m")
	a.wantAfter(t, 2, 1, "0 10/10/11 21/21/23 34/34/37 47 10m")
	a.wantAfter(t, 3, 1, "0 10/10/11 21/21/23 33/33/36 47 10m")
	for at := range 4 {
		a.wantAfter(t, at, 0, "0 10/10/11 21/21/23 33/33/36 46 10m")
	}
	// The greatest delay is one that a vehicle which is at its place from the first tick on can have.
	a = along(t, sample.Town("", "0>0 0-4096 4096/0", "- 0@0-4096+0"), "A", "--", "0 0/0/0 0 0m")
	for at, want := range []string{"0 4096/4096/4096 4096 0m", "0 0/0/0 4096 0m"} {
		a.wantAfter(t, at, 4096, want)
		a.wantAfterError(t, at, 4097, api.ErrArg)
	}
	a.wantSlack(t, 4096, 4096)
}

// P19.1: a window that is missed by one tick, at the visit itself, at a later one, and at the end.
func TestAfterMissesWindows(t *testing.T) {
	trips := func(first, second, third, last int) trip {
		x := ring(fmt.Sprintf("0-%d 4096/0", last), fmt.Sprintf("- 1@0-%d+0, - 2@0-%d+0, - 3@0-%d+0", first, second, third))
		return along(t, x, "ABC", "----", "0 10/10/10 20/20/20 30/30/30 40 10m")
	}
	a := trips(15, 27, 39, 51)
	a.wantSlack(t, 5, 7, 9, 11)
	a.wantAfter(t, 0, 5, "0 15/15/15 25/25/25 35/35/35 45 10m")
	a.wantAfter(t, 1, 7, "0 10/10/10 27/27/27 37/37/37 47 10m")
	a.wantAfter(t, 2, 9, "0 10/10/10 20/20/20 39/39/39 49 10m")
	a.wantAfter(t, 3, 11, "0 10/10/10 20/20/20 30/30/30 51 10m")
	for at, most := range []int{5, 7, 9} {
		a.wantAfterError(t, at, most+1, api.ErrWindow)
	}
	a.wantAfterError(t, 3, 12, api.ErrClose)
	a = trips(90, 90, 33, 60)
	a.wantSlack(t, 3, 3, 3, 20)
	a.wantAfter(t, 0, 3, "0 13/13/13 23/23/23 33/33/33 43 10m")
	a.wantAfterError(t, 0, 4, api.ErrWindow)
	a.wantAfterError(t, 1, 4, api.ErrWindow)
	a = trips(90, 25, 33, 60)
	a.wantSlack(t, 3, 3, 3, 20)
	a = trips(90, 22, 33, 60)
	a.wantSlack(t, 2, 2, 3, 20)
	a = trips(90, 90, 90, 48)
	a.wantSlack(t, 8, 8, 8, 8)
	for at := range 4 {
		a.wantAfterError(t, at, 9, api.ErrClose)
	}
	a.wantAfter(t, 0, 8, "0 18/18/18 28/28/28 38/38/38 48 10m")
	a = trips(10, 20, 30, 40)
	a.wantSlack(t, 0, 0, 0, 0)
	a.wantAfterError(t, 0, 1, api.ErrWindow)
	a.wantAfterError(t, 3, 1, api.ErrClose)
}

// P19.1: a delay counts as driving, until the next rest.
func TestAfterDrives(t *testing.T) {
	orders := "- 1@0-900+0, - 2@0-900+0, - 3@0-900+0"
	trips := func(most int, rests, want string) trip {
		return along(t, ring(fmt.Sprintf("0-900 %d/5", most), orders), "ABC", rests, want)
	}
	a := trips(46, "----", "0 10/10/10 20/20/20 30/30/30 40 10m")
	a.wantSlack(t, 6, 6, 6, 6)
	for at := range 4 {
		a.wantAfterError(t, at, 7, api.ErrRest)
	}
	// At the visit itself, which is followed by a rest.
	a = trips(25, "--*-", "0 10/10/10 20/20/25* 35/35/35 45 10m")
	a.wantSlack(t, 5, 5, 5, 5)
	a.wantAfter(t, 1, 5, "0 10/10/10 25/25/30* 40/40/40 50 10m")
	for at := range 4 {
		a.wantAfterError(t, at, 6, api.ErrRest)
	}
	// After a rest, the driving time is that of the ways alone.
	a = trips(30, "---*", "0 10/10/10 20/20/20 30/30/35* 45 10m")
	a.wantSlack(t, 0, 0, 0, 20)
	a = trips(30, "-*--", "0 10/10/15* 25/25/25 35/35/35 45 10m")
	a.wantSlack(t, 20, 0, 0, 0)
	a.wantAfter(t, 0, 20, "0 30/30/35* 45/45/45 55/55/55 65 10m")
	a.wantAfterError(t, 0, 21, api.ErrRest)
	a.wantAfterError(t, 1, 1, api.ErrRest)
	a = trips(32, "--*-", "0 10/10/10 20/20/25* 35/35/35 45 10m")
	a.wantSlack(t, 12, 12, 12, 12)
	// A rest at the beginning is before all delays.
	a = trips(45, "*---", "5* 15/15/15 25/25/25 35/35/35 45 10m")
	a.wantSlack(t, 5, 5, 5, 5)
	a = trips(12, "****", "5* 15/15/20* 30/30/35* 45/45/50* 60 10m")
	a.wantSlack(t, 2, 2, 2, 2)
	a.wantAfter(t, 0, 2, "5* 17/17/22* 32/32/37* 47/47/52* 62 10m")
	a.wantAfter(t, 3, 2, "5* 15/15/20* 30/30/35* 45/45/50* 62 10m")
	// Waiting is no driving, and a delay is driving also where the vehicle would wait.
	x := ring("0-900 30/5", "- 1@0-900+0, - 2@200-900+0, - 3@0-900+70")
	a = along(t, x, "ABC", "--*-", "0 10/10/10 20/200/205* 215/215/285 295 10m")
	a.wantSlack(t, 10, 10, 10, 10)
	a.wantAfter(t, 0, 10, "0 20/20/20 30/200/205* 215/215/285 295 10m")
	a.wantAfterError(t, 0, 11, api.ErrRest)
	a.wantAfterError(t, 1, 11, api.ErrRest)
}

// P19.1: of several rules that are violated, the first one of the first arrival decides.
func TestAfterOrdersItsErrors(t *testing.T) {
	trips := func(first, last, drive int) trip {
		x := ring(fmt.Sprintf("0-%d %d/0", last, drive), fmt.Sprintf("- 1@0-%d+0", first))
		x.Net.Arcs[1].To = 0
		return along(t, x, "A", "--", "0 10/10/10 20 3m")
	}
	a := trips(15, 25, 25)
	a.wantSlack(t, 5, 5)
	a.wantAfterError(t, 0, 6, api.ErrWindow)
	a.wantAfterError(t, 0, 4096, api.ErrWindow)
	a.wantAfterError(t, 1, 6, api.ErrClose)
	a.wantAfterError(t, 1, 4096, api.ErrClose)
	// Not before it drives too much at the visit, the window is missed.
	a = trips(40, 25, 25)
	a.wantAfterError(t, 0, 6, api.ErrClose)
	a.wantAfterError(t, 0, 15, api.ErrClose)
	a.wantAfterError(t, 0, 16, api.ErrRest)
	a.wantAfterError(t, 0, 30, api.ErrRest)
	a.wantAfterError(t, 0, 31, api.ErrWindow)
	a = trips(40, 27, 25)
	a.wantAfterError(t, 0, 6, api.ErrRest)
	a.wantAfterError(t, 0, 7, api.ErrRest)
	a.wantAfterError(t, 0, 8, api.ErrClose)
	a.wantAfterError(t, 1, 6, api.ErrRest)
	a.wantAfterError(t, 1, 8, api.ErrClose)
	// Too much driving at the first arrival, and a window that is missed at the next one.
	x := ring("0-900 12/0", "- 1@0-30+0, - 2@0-22+0, - 3@0-900+0")
	a = along(t, x, "ABC", "-***", "0 10/10/10* 20/20/20* 30/30/30* 40 10m")
	a.wantSlack(t, 2, 2, 2, 2)
	a.wantAfterError(t, 0, 3, api.ErrRest)
	a.wantAfterError(t, 0, 20, api.ErrRest)
	a.wantAfterError(t, 0, 21, api.ErrWindow)
	a.wantAfterError(t, 1, 3, api.ErrWindow)
	x.Orders[1].Drop.Close = 21
	a.wantAfterError(t, 0, 2, api.ErrWindow)
	a.wantAfterError(t, 0, 3, api.ErrRest)
}

// P19.3: a delay that is taken up by waiting, or made good by ways that take less time later.
func TestAfterCatchesUp(t *testing.T) {
	// The first example of the chapter.
	x := ring("0-900 900/0", "- 1@25-45+3, - 2@0-900+0")
	x.Net.Arcs[2] = sample.Arc("2>0 4m 10")
	a := along(t, x, "AB", "---", "0 10/25/28 38/38/38 48 7m")
	for late, arrive := range []int{10, 11, 12, 13, 14, 15, 16, 17, 18, 19, 20, 21, 22, 23, 24, 25} {
		a.wantAfter(t, 0, late, fmt.Sprintf("0 %d/25/28 38/38/38 48 7m", arrive))
	}
	a.wantAfter(t, 0, 16, "0 26/26/29 39/39/39 49 7m")
	a.wantAfter(t, 0, 35, "0 45/45/48 58/58/58 68 7m")
	a.wantSlack(t, 35, 852, 852)
	// Waiting at a later visit, in whole and in part.
	x = ring("0-900 900/0", "- 1@0-900+0, - 2@26-900+0, - 3@40-44+0")
	a = along(t, x, "ABC", "----", "0 10/10/10 20/26/26 36/40/40 50 10m")
	a.wantAfter(t, 0, 6, "0 16/16/16 26/26/26 36/40/40 50 10m")
	a.wantAfter(t, 0, 7, "0 17/17/17 27/27/27 37/40/40 50 10m")
	a.wantAfter(t, 0, 10, "0 20/20/20 30/30/30 40/40/40 50 10m")
	a.wantAfter(t, 0, 14, "0 24/24/24 34/34/34 44/44/44 54 10m")
	a.wantSlack(t, 14, 14, 8, 850)
	// From 10 to 30, who departs later arrives no later.
	x = sample.Town("0>1 10, 1>2 10:40 30:40 31:60, 2>0 5", "0>0 0-65 900/0", "- 1@0-90+0, - 2@0-90+0")
	a = along(t, x, "AB", "---", "0 10/10/10 40/40/40 45 0m")
	a.wantAfter(t, 0, 20, "0 30/30/30 40/40/40 45 0m")
	a.wantAfter(t, 0, 21, "0 31/31/31 60/60/60 65 0m")
	a.wantAfterError(t, 0, 22, api.ErrClose)
	a.wantSlack(t, 21, 20, 20)
	// A way on which the vehicle stays where it is takes no time, early and late.
	x = sample.Town("0>1 10, 1>2 10", "0>2 0-65 25/4", "1@0-90+1 1@0-90+2, 1@0-90+3 2@0-90+0")
	a = along(t, x, "aAbB", "---*-", "0 10/10/11 11/11/13 13/13/20* 30/30/30 30 0m")
	a.wantAfter(t, 0, 9, "0 19/19/20 20/20/22 22/22/29* 39/39/39 39 0m")
	a.wantAfter(t, 4, 15, "0 10/10/11 11/11/13 13/13/20* 30/30/30 45 0m")
	a.wantSlack(t, 15, 15, 15, 15, 15)
}
