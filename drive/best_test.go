package drive_test

import (
	"fmt"
	"strings"
	"testing"

	"lorry/api"
	"lorry/drive"
	"lorry/internal/sample"
)

// P18.2: the example of the chapter.
func TestBestOfTheExample(t *testing.T) {
	r := sample.Route(0, 0, "A")
	wantBest(t, example("4096/0"), r, "", "0 10/30/32 42 10m")
	wantBest(t, example("15/4"), r, "", "0 10/30/36* 46 10m")
	wantBest(t, example("15/4"), r, "-", "0 10/30/36* 46 10m")
	wantBest(t, example("15/4"), r, "-*", "0 10/30/36* 46 10m")
	wantBest(t, example("15/4"), r, "*", "4* 14/30/36* 46 10m")
	wantBest(t, example("15/4"), r, "**", "4* 14/30/36* 46 10m")
	wantBestError(t, example("15/4"), r, "--", api.ErrRest)
	wantBestError(t, example("15/4"), r, "*-", api.ErrRest)
	wantBestError(t, example("9/4"), r, "", api.ErrRest)
}

// P18.2: a route that needs no rest has no others than those that it has already.
func TestBestWithoutRests(t *testing.T) {
	x := line("0>4 0-200 100/5", "1@0-99+4 2@0-99+6, 2@50-99+1 1@0-99+0, - 3@60-99+9")
	r := sample.Route(0, 0, "aAC")
	for fixed, want := range map[string]string{
		"":     "0 10/10/14 24/24/30 40/60/69 79 12m",
		"-":    "0 10/10/14 24/24/30 40/60/69 79 12m",
		"----": "0 10/10/14 24/24/30 40/60/69 79 12m",
		"*":    "5* 15/15/19 29/29/35 45/60/69 79 12m",
		"-*":   "0 10/10/19* 29/29/35 45/60/69 79 12m",
		"--*":  "0 10/10/14 24/24/35* 45/60/69 79 12m",
		"---*": "0 10/10/14 24/24/30 40/60/74* 84 12m",
		"*-*":  "5* 15/15/19 29/29/40* 50/60/69 79 12m",
		"****": "5* 15/15/24* 34/34/45* 55/60/74* 84 12m",
	} {
		wantBest(t, x, r, fixed, want)
	}
}

// P18.2: as many Rests as there can be, and more.
func TestBestCountsTheRests(t *testing.T) {
	x := line("0>1 0-200 99/0", "1@0-99+4 2@0-99+6, - 1@0-99+1")
	for _, s := range []string{"", "a", "aA", "aAB", "aABBBB"} {
		for count := range 30 {
			r := sample.Route(0, 0, s)
			for _, letter := range []string{"-", "*"} {
				r.Rests = sample.Rests(strings.Repeat(letter, count))
				if _, err := drive.Best(x, r); (err == api.OK) != (count <= len(s)+1) || err != api.OK && err != api.ErrArg {
					t.Error(s, count, err)
				}
			}
		}
	}
}

// ring is an instance with a way of 10 ticks from each of the places 0 to 3 to the next one, and back to 0, and with deliveries at the places 1 to 3 that can begin at given ticks.
func ring(limits string, first, second, third int) api.Instance {
	orders := fmt.Sprintf("- 1@%d-90+0, - 2@%d-90+0, - 3@%d-90+0", first, second, third)
	return sample.Town("0>1 10, 1>2 10, 2>3 10, 3>0 10", "0>0 0-90 "+limits, orders)
}

// P18.2: a rest where it takes the least time, because the vehicle waits at the next stop.
func TestBestRestsWhereItWaits(t *testing.T) {
	r := sample.Route(0, 0, "ABC")
	wantBest(t, ring("30/8", 0, 0, 0), r, "", "0 10/10/10 20/20/20 30/30/38* 48 0m")
	wantBest(t, ring("30/8", 18, 0, 0), r, "", "0 10/18/18 28/28/28 38/38/46* 56 0m")
	wantBest(t, ring("30/8", 0, 28, 0), r, "", "0 10/10/18* 28/28/28 38/38/38 48 0m")
	wantBest(t, ring("30/8", 0, 0, 38), r, "", "0 10/10/10 20/20/28* 38/38/38 48 0m")
	wantBest(t, ring("30/8", 0, 28, 38), r, "", "0 10/10/18* 28/28/28 38/38/38 48 0m")
	wantBest(t, ring("30/8", 0, 25, 38), r, "", "0 10/10/18* 28/28/28 38/38/38 48 0m")
	wantBest(t, ring("29/8", 0, 28, 0), r, "", "0 10/10/10 20/28/36* 46/46/46 56 0m")
	wantBest(t, ring("20/8", 0, 28, 0), r, "", "0 10/10/10 20/28/36* 46/46/46 56 0m")
	wantBest(t, ring("10/8", 0, 28, 0), r, "", "0 10/10/18* 28/28/36* 46/46/54* 64 0m")
}

// P18.2: of several schedules with the least end, the one that rests later where they first differ.
func TestBestRestsLate(t *testing.T) {
	r := sample.Route(0, 0, "ABC")
	for most, want := range map[int]string{
		40: "0 10/10/10 20/20/20 30/30/30 40 0m",
		39: "0 10/10/10 20/20/20 30/30/36* 46 0m",
		30: "0 10/10/10 20/20/20 30/30/36* 46 0m",
		29: "0 10/10/10 20/20/26* 36/36/36 46 0m",
		20: "0 10/10/10 20/20/26* 36/36/36 46 0m",
		19: "0 10/10/16* 26/26/32* 42/42/48* 58 0m",
		10: "0 10/10/16* 26/26/32* 42/42/48* 58 0m",
	} {
		wantBest(t, ring(fmt.Sprint(most, "/6"), 0, 0, 0), r, "", want)
		wantBest(t, ring(fmt.Sprint(most, "/6"), 0, 0, 0), r, "-", want)
	}
	wantBest(t, ring("30/6", 0, 0, 0), r, "-*", "0 10/10/16* 26/26/26 36/36/36 46 0m")
	wantBest(t, ring("29/6", 0, 0, 0), r, "-*", "0 10/10/16* 26/26/26 36/36/42* 52 0m")
	wantBest(t, ring("20/6", 0, 0, 0), r, "*", "6* 16/16/16 26/26/32* 42/42/42 52 0m")
	wantBestError(t, ring("20/6", 0, 0, 0), r, "---", api.ErrRest)
	wantBestError(t, ring("9/6", 0, 0, 0), r, "", api.ErrRest)
}

// P18.2: rests that take no time are no reason to rest earlier or more often.
func TestBestRestsForNothing(t *testing.T) {
	r := sample.Route(0, 0, "ABC")
	for most, want := range map[int]string{40: "0 10/10/10 20/20/20 30/30/30 40 0m", 30: "0 10/10/10 20/20/20 30/30/30* 40 0m", 20: "0 10/10/10 20/20/20* 30/30/30 40 0m", 10: "0 10/10/10* 20/20/20* 30/30/30* 40 0m"} {
		wantBest(t, ring(fmt.Sprint(most, "/0"), 0, 0, 0), r, "", want)
	}
	wantBest(t, ring("20/0", 0, 0, 0), r, "-*", "0 10/10/10* 20/20/20 30/30/30* 40 0m")
	wantBest(t, ring("20/0", 0, 0, 0), r, "****", "0* 10/10/10* 20/20/20* 30/30/30* 40 0m")
}

// P18.2: who departs later drives less where travel times fall, so that a rest makes an arrival possible, and several ones do where one is not enough.
func TestBestRestsForShorterWays(t *testing.T) {
	x := sample.Town("0>1 0:12 9:12, 1>0 3", "0>0 0-90 10/2", "- 1@0-90+0")
	wantBest(t, x, sample.Route(0, 0, "A"), "", "2* 12/12/14* 17 0m")
	x.Types[0].Drive = 12
	wantBest(t, x, sample.Route(0, 0, "A"), "", "0 12/12/14* 17 0m")
	x.Types[0].Drive, x.Types[0].Rest = 11, 4
	wantBest(t, x, sample.Route(0, 0, "A"), "", "4* 12/12/12 15 0m")
	wantBestError(t, x, sample.Route(0, 0, "A"), "-", api.ErrRest)
	// From 5 the second way takes 15 ticks, from 9 on 11, and from 13 on 7.
	x = sample.Town("0>1 5, 1>2 0:20 20:20, 2>0 1", "0>0 0-90 10/4", "- 1@0-90+0, - 2@0-90+0")
	wantBest(t, x, sample.Route(0, 0, "AB"), "", "4* 9/9/13* 20/20/20 21 0m")
	wantBestError(t, x, sample.Route(0, 0, "AB"), "-", api.ErrRest)
	x.Types[0].Drive = 11
	wantBest(t, x, sample.Route(0, 0, "AB"), "", "4* 9/9/13* 20/20/20 21 0m")
	wantBest(t, x, sample.Route(0, 0, "AB"), "-", "0 5/5/9* 20/20/24* 25 0m")
	x.Types[0].Drive = 12
	wantBest(t, x, sample.Route(0, 0, "AB"), "", "0 5/5/9* 20/20/20 21 0m")
	// All rests that there can be.
	x = sample.Town("0>1 0:9 6:9, 1>2 0:16 12:16, 2>0 0:29 25:29", "0>0 0-90 4/6", "- 1@0-90+0, - 2@0-90+0")
	wantBest(t, x, sample.Route(0, 0, "AB"), "", "6* 9/9/15* 19/19/25* 29 0m")
	for _, fixed := range []string{"-", "*-", "**-"} {
		wantBestError(t, x, sample.Route(0, 0, "AB"), fixed, api.ErrRest)
	}
}

// P18.2: without a schedule, the error is that of the list without further rests.
func TestBestErrors(t *testing.T) {
	r := sample.Route(0, 0, "ABC")
	late := func(at, last int) api.Instance {
		x := ring("20/8", 0, 0, 0)
		x.Orders[at].Drop.Close = last
		return x
	}
	wantBest(t, late(0, 10), r, "", "0 10/10/10 20/20/28* 38/38/38 48 0m")
	wantBest(t, late(1, 20), r, "", "0 10/10/10 20/20/28* 38/38/38 48 0m")
	wantBest(t, late(2, 38), r, "", "0 10/10/10 20/20/28* 38/38/38 48 0m")
	wantBestError(t, late(0, 9), r, "", api.ErrWindow)
	wantBestError(t, late(1, 19), r, "", api.ErrWindow)
	// Without a rest there is too much driving, and with one it is too late.
	wantBestError(t, late(2, 37), r, "", api.ErrRest)
	wantBestError(t, late(2, 37), r, "--", api.ErrRest)
	wantBestError(t, late(2, 37), r, "--*", api.ErrWindow)
	wantBestError(t, late(2, 37), r, "-*", api.ErrWindow)
	wantBestError(t, late(0, 17), r, "*", api.ErrWindow)
	wantBestError(t, late(2, 29), r, "", api.ErrWindow)
	x := ring("20/8", 0, 0, 0)
	for last, want := range map[int]api.Errno{47: api.ErrRest, 40: api.ErrRest, 39: api.ErrRest} {
		x.Types[0].Close = last
		wantBestError(t, x, r, "", want)
		wantBestError(t, x, r, "--", want)
		wantBestError(t, x, r, "--*", api.ErrClose)
		wantBestError(t, x, r, "--*-", api.ErrClose)
	}
	x.Types[0].Close, x.Types[0].Drive = 39, 40
	wantBestError(t, x, r, "", api.ErrClose)
	x.Net.Arcs = x.Net.Arcs[:3]
	wantBestError(t, x, r, "", api.ErrArc)
	x.Types[0].Drive = 20
	wantBestError(t, x, r, "", api.ErrRest)
	x.Types[0].Close = 90
	wantBestError(t, x, r, "", api.ErrRest)
	wantBestError(t, x, r, "--*", api.ErrArc)
}

// P18.2: a fixed rest after which travel times are longer; other rests do not help, and without it nothing would be wrong.
func TestBestKeepsRestsThatDoHarm(t *testing.T) {
	x := sample.Town("0>1 0:5 1:5 2:20, 1>0 5", "0>0 0-90 10/2", "- 1@0-90+0")
	wantBest(t, x, sample.Route(0, 0, "A"), "", "0 5/5/5 10 0m")
	for _, fixed := range []string{"*", "*-", "**"} {
		wantBestError(t, x, sample.Route(0, 0, "A"), fixed, api.ErrRest)
	}
	x.Types[0].Drive = 18
	wantBestError(t, x, sample.Route(0, 0, "A"), "*-", api.ErrRest)
	wantBest(t, x, sample.Route(0, 0, "A"), "*", "2* 20/20/22* 27 0m")
}

// P18.2: 20 visits, with no rest, some rests, and as many as there can be.
func TestBestOfLongRoutes(t *testing.T) {
	x := sample.Town("0>1 1m 10, 1>0 1m 10", "0>1 0-4096 10/3", "0@0-4096+0 1@0-4096+0")
	r := sample.Route(0, 0, strings.Repeat("Aa", 10))
	for most, want := range map[int]string{
		9:   "",
		10:  "-********************",
		19:  "-********************",
		20:  "--*-*-*-*-*-*-*-*-*-*",
		29:  "--*-*-*-*-*-*-*-*-*-*",
		30:  "---*--*--*--*--*--*--",
		70:  "-------*------*------",
		100: "----------*---------*",
		110: "-----------*---------",
		200: "--------------------*",
		210: "---------------------",
	} {
		x.Types[0].Drive = most
		if want == "" {
			wantBestError(t, x, r, "", api.ErrRest)
			continue
		}
		s, _, err := runOf(x, r, sample.Rests(want))
		if err != api.OK || s.End != 210+3*strings.Count(want, "*") {
			t.Error(most, sample.Show(s), err)
		}
		wantBest(t, x, r, "", sample.Show(s))
		wantBest(t, x, r, want, sample.Show(s))
		wantBest(t, x, r, want[:7], sample.Show(s))
	}
	x.Types[0].Drive = 10
	wantBestError(t, x, r, "--", api.ErrRest)
	s, _, _ := runOf(x, r, sample.Rests("*********************"))
	wantBest(t, x, r, "*", sample.Show(s))
	// The way to the end is too long with any rests.
	x.Types[0].To, x.Types[0].Drive = 2, 10
	x.Net.Arcs = append(x.Net.Arcs, sample.Arc("0>2 11"))
	wantBestError(t, x, r, "", api.ErrRest)
	x.Types[0].Drive = 11
	s, _, _ = runOf(x, r, sample.Rests("-********************"))
	wantBest(t, x, r, "", sample.Show(s))
}

// P18.2: a rest is saved by one that comes earlier, and the other way round.
func TestBestChoosesAmongRests(t *testing.T) {
	// All wait at the place 2, so that the first rests take no time.
	x := sample.Town("0>1 10, 1>2 10, 2>3 10, 3>0 10", "0>0 0-400 30/20", "- 1@0-400+0, - 2@60-400+0, - 3@0-400+0")
	wantBest(t, x, sample.Route(0, 0, "ABC"), "", "0 10/10/30* 40/60/60 70/70/70 80 0m")
	x.Types[0].Drive = 29
	wantBest(t, x, sample.Route(0, 0, "ABC"), "", "0 10/10/10 20/60/80* 90/90/90 100 0m")
	x.Types[0].Drive = 19
	wantBest(t, x, sample.Route(0, 0, "ABC"), "", "0 10/10/30* 40/60/80* 90/90/110* 120 0m")
	// An order whose window closes keeps it from resting there.
	x = sample.Town("0>1 10, 1>2 10, 2>3 10, 3>0 10", "0>0 0-400 30/20", "- 1@0-400+0, - 2@0-39+0, - 3@0-59+0")
	wantBest(t, x, sample.Route(0, 0, "ABC"), "", "0 10/10/10 20/20/20 30/30/50* 60 0m")
	x.Types[0].Drive = 20
	wantBest(t, x, sample.Route(0, 0, "ABC"), "", "0 10/10/10 20/20/40* 50/50/50 60 0m")
	x.Types[0].Drive = 19
	wantBestError(t, x, sample.Route(0, 0, "ABC"), "", api.ErrRest)
	x.Orders[1].Drop.Close, x.Orders[2].Drop.Close = 40, 70
	wantBest(t, x, sample.Route(0, 0, "ABC"), "", "0 10/10/30* 40/40/60* 70/70/90* 100 0m")
	x.Orders[2].Drop.Close = 69
	wantBestError(t, x, sample.Route(0, 0, "ABC"), "", api.ErrRest)
	wantBestError(t, x, sample.Route(0, 0, "ABC"), "-**", api.ErrWindow)
}
