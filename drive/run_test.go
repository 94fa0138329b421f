package drive_test

import (
	"fmt"
	"strings"
	"testing"

	"lorry/api"
	"lorry/internal/sample"
)

// example is the instance of the chapter, with a Drive and a Rest.
func example(limits string) api.Instance {
	return sample.Town("0>1 5m 10, 1>0 5m 10", "0>0 0-100 "+limits, "- 1@30-40+2")
}

// P18.1: the example of the chapter.
func TestRunOfTheExample(t *testing.T) {
	wantRun(t, example("4096/0"), sample.Route(0, 0, "A"), "--", "0 10/30/32 42 10m")
	wantRun(t, example("15/4"), sample.Route(0, 0, "A"), "-*", "0 10/30/36* 46 10m")
	wantRun(t, example("15/4"), sample.Route(0, 0, "A"), "**", "4* 14/30/36* 46 10m")
	wantRunError(t, example("15/4"), sample.Route(0, 0, "A"), "--", api.ErrRest)
	wantRunError(t, example("15/4"), sample.Route(0, 0, "A"), "*-", api.ErrRest)
}

// line is an instance with the places 0 to 4 in a row, 10 ticks and 3 miles apart from left to right, and 7 ticks and 2 miles from right to left.
func line(types, orders string) api.Instance {
	var arcs []string
	for i := range 4 {
		arcs = append(arcs, fmt.Sprintf("%d>%d 3m 10, %d>%d 2m 7", i, i+1, i+1, i))
	}
	return sample.Town(strings.Join(arcs, ", "), types, orders)
}

// P18.1: pickups and deliveries, from one place to another one, with and without waiting.
func TestRunGoesFromStopToStop(t *testing.T) {
	x := line("0>4 0-200 100/5", "1@0-99+4 2@0-99+6, 2@50-99+1 1@0-99+0, - 3@60-99+9")
	wantRun(t, x, sample.Route(0, 0, "aAC"), "----", "0 10/10/14 24/24/30 40/60/69 79 12m")
	wantRun(t, x, sample.Route(0, 0, "abBAC"), "------", "0 10/10/14 24/50/51 58/58/58 68/68/74 84/84/93 103 17m")
	wantRun(t, x, sample.Route(0, 0, "abBAC"), "-*--*-", "0 10/10/19* 29/50/51 58/58/58 68/68/79* 89/89/98 108 17m")
}

// P18.1: it is ready at the later one of Open and Start.
func TestRunBeginsWhenTheVehicleIsReady(t *testing.T) {
	x := line("0>1 20-200 100/5", "- 1@0-99+4")
	for start, want := range map[int]string{0: "20 30/30/34 34 3m", 1: "20 30/30/34 34 3m", 19: "20 30/30/34 34 3m", 20: "20 30/30/34 34 3m", 21: "21 31/31/35 35 3m", 60: "60 70/70/74 74 3m", 89: "89 99/99/103 103 3m"} {
		wantRun(t, x, sample.Route(0, start, "A"), "--", want)
	}
	wantRun(t, x, sample.Route(0, 0, "A"), "*-", "25* 35/35/39 39 3m")
	wantRun(t, x, sample.Route(0, 30, "A"), "*-", "35* 45/45/49 49 3m")
	wantRun(t, x, sample.Route(0, 30, "A"), "**", "35* 45/45/54* 54 3m")
	wantRunError(t, x, sample.Route(0, 90, "A"), "--", api.ErrWindow)
}

// P18.1: all lists of rests of a route.
func TestRunRests(t *testing.T) {
	x := line("0>0 0-200 100/8", "- 1@20-40+2")
	for given, want := range map[string]string{
		"--": "0 10/20/22 29 5m",
		"-*": "0 10/20/30* 37 5m",
		"*-": "8* 18/20/22 29 5m",
		"**": "8* 18/20/30* 37 5m",
	} {
		wantRun(t, x, sample.Route(0, 0, "A"), given, want)
	}
	x = line("0>0 0-200 100/0", "- 1@20-40+2")
	for given, want := range map[string]string{
		"--": "0 10/20/22 29 5m",
		"-*": "0 10/20/22* 29 5m",
		"*-": "0* 10/20/22 29 5m",
		"**": "0* 10/20/22* 29 5m",
	} {
		wantRun(t, x, sample.Route(0, 0, "A"), given, want)
	}
}

// P18.1: travel times depend on the departure, and the delays that have begun then count.
func TestRunTravelTimes(t *testing.T) {
	x := sample.Town("0>1 4m 0:10 20:25 30:60, 1>0 6m 10 ~15:2 ~25:3 ~40:50", "0>0 0-300 200/5", "- 1@0-200+0")
	for start, want := range map[int]string{
		0:  "0 10/10/10 20 10m",
		1:  "1 11/11/11 21 10m",
		4:  "4 13/13/13 23 10m",
		5:  "5 14/14/14 24 10m",
		6:  "6 15/15/15 27 10m",
		18: "18 24/24/24 36 10m",
		19: "19 25/25/25 40 10m",
		20: "20 25/25/25 40 10m",
		21: "21 29/29/29 44 10m",
		24: "24 39/39/39 54 10m",
		25: "25 43/43/43 108 10m",
		30: "30 60/60/60 125 10m",
		40: "40 70/70/70 135 10m",
	} {
		wantRun(t, x, sample.Route(0, start, "A"), "--", want)
	}
	wantRun(t, x, sample.Route(0, 0, "A"), "*-", "5* 14/14/14 24 10m")
	wantRun(t, x, sample.Route(0, 0, "A"), "-*", "0 10/10/15* 27 10m")
	wantRun(t, x, sample.Route(0, 4, "A"), "-*", "4 13/13/18* 30 10m")
	wantRun(t, x, sample.Route(0, 15, "A"), "-*", "15 22/22/27* 42 10m")
}

// P18.1: vehicles use the arcs of their profile.
func TestRunProfiles(t *testing.T) {
	x := sample.Town("0>1 4m 10, 0>1 5m 20 p1, 0>1 6m 30 p7, 1>0 1m 1, 1>0 2m 2 p1, 1>0 3m 3 p7", "0>0 0-100 60/0, 0>0 0-100 60/0 p1, 0>0 0-100 60/0 p7, 0>0 0-100 60/0 p2", "- 1@0-99+0")
	wantRun(t, x, sample.Route(0, 0, "A"), "--", "0 10/10/10 11 5m")
	wantRun(t, x, sample.Route(1, 0, "A"), "--", "0 20/20/20 22 7m")
	wantRun(t, x, sample.Route(2, 0, "A"), "--", "0 30/30/30 33 9m")
	wantRunError(t, x, sample.Route(3, 0, "A"), "--", api.ErrArc)
}

// P18.1: who is there already departs and arrives at once, without an arc.
func TestRunStays(t *testing.T) {
	x := sample.Town("", "2>2 5-100 1/7", "2@0-99+0 2@0-99+6, 2@30-99+1 -")
	wantRun(t, x, sample.Route(0, 0, "aA"), "---", "5 5/5/5 5/5/11 11 0m")
	wantRun(t, x, sample.Route(0, 0, "aA"), "***", "12* 12/12/19* 19/19/32* 32 0m")
	wantRun(t, x, sample.Route(0, 0, "abA"), "---*", "5 5/5/5 5/30/31 31/31/44* 44 0m")
	x = line("0>1 0-100 20/0", "1@0-99+0 1@0-99+6, 1@30-99+1 2@0-50+0")
	wantRun(t, x, sample.Route(0, 0, "abAaA"), "------", "0 10/10/10 10/30/31 31/31/37 37/37/37 37/37/43 43 3m")
	wantRun(t, x, sample.Route(0, 0, "abB"), "---*", "0 10/10/10 10/30/31 41/41/41* 48 8m")
}

// P18.1: a route without visits.
func TestRunWithoutVisits(t *testing.T) {
	x := line("0>1 5-100 20/3, 3>2 5-100 20/3, 2>2 5-100 20/3, 0>2 0-100 20/3", "- 1@0-99+0")
	for number, want := range []string{"5 15 3m", "5 12 2m", "5 5 0m"} {
		wantRun(t, x, sample.Route(number, 0, ""), "-", want)
		wantRunError(t, x, sample.Route(number, 0, ""), "", api.ErrArg)
		wantRunError(t, x, sample.Route(number, 0, ""), "--", api.ErrArg)
	}
	for number, want := range []string{"23* 33 3m", "23* 30 2m", "23* 23 0m"} {
		wantRun(t, x, sample.Route(number, 20, ""), "*", want)
	}
	wantRunError(t, x, sample.Route(3, 0, ""), "-", api.ErrArc)
	wantRun(t, x, sample.Route(2, 100, ""), "-", "100 100 0m")
	wantRunError(t, x, sample.Route(2, 100, ""), "*", api.ErrClose)
	wantRunError(t, x, sample.Route(2, 101, ""), "-", api.ErrClose)
}

// P18.1: orders may be cancelled, missing or repeated, and come in any order; loads and skills play no part, nor do pairs.
func TestRunAsksNothingElse(t *testing.T) {
	x := line("0>1 0-200 99/5", "1@0-99+4 2@0-99+6, 1@0-99+1 -, - 2@0-99+2")
	x.Orders[0].Off = true
	x.Orders[1].Skills, x.Orders[1].Load = 5, []int{1000}
	x.Apart, x.Before = [][2]int{{0, 1}}, [][2]int{{2, 0}}
	wantRun(t, x, sample.Route(0, 0, "a"), "--", "0 10/10/14 14 3m")
	wantRun(t, x, sample.Route(0, 0, "aA"), "---", "0 10/10/14 24/24/30 37 8m")
	wantRun(t, x, sample.Route(0, 0, "aAaa"), "--*--", "0 10/10/14 24/24/35* 42/42/46 46/46/50 50 8m")
	wantRun(t, x, sample.Route(0, 0, "abC"), "----", "0 10/10/14 14/14/15 25/25/27 34 8m")
	wantRun(t, x, sample.Route(0, 0, "bCA"), "----", "0 10/10/11 21/21/23 23/23/29 36 8m")
}

// P18.1: 20 visits, but not 21.
func TestRunCountsTheVisits(t *testing.T) {
	x := line("0>0 0-4096 4096/1", "1@0-4096+1 1@0-4096+2, 2@0-4096+1 1@0-4096+0")
	for count := range 30 {
		s := strings.Repeat("aAbB", 8)[:count]
		given := strings.Repeat("-", count+1)
		if count > 20 {
			wantRunError(t, x, sample.Route(0, 0, s), given, api.ErrArg)
			continue
		}
		r := sample.Route(0, 0, s)
		want, _, err := runOf(x, r, sample.Rests(given))
		if (count%4 == 3) != (err == api.ErrArc) {
			t.Error(count, err)
		}
		if err == api.OK {
			wantRun(t, x, r, given, sample.Show(want))
			wantBest(t, x, r, "", sample.Show(want))
		} else {
			wantRunError(t, x, r, given, err)
		}
	}
	want := "0 10/10/11 11/11/13" + " 23/23/24 31/31/31 31/31/32 32/32/34" + " 44/44/45 52/52/52 52/52/53 53/53/55" + " 65/65/66 73/73/73 73/73/74 74/74/76" + " 86/86/87 94/94/94 94/94/95 95/95/97" + " 107/107/108 115/115/115 122 30m"
	wantRun(t, x, sample.Route(0, 0, strings.Repeat("aAbB", 5)), strings.Repeat("-", 21), want)
	last := strings.TrimSuffix(want, "115 122 30m") + "116* 123 30m"
	wantRun(t, x, sample.Route(0, 0, strings.Repeat("aAbB", 5)), strings.Repeat("-", 20)+"*", last)
}
