package drive_test

import (
	"slices"
	"strings"
	"testing"

	"lorry/api"
	"lorry/drive"
	"lorry/internal/sample"
)

// wantArg expects ErrArg of all functions, for a route that is not possible here.
func wantArg(t *testing.T, x api.Instance, r api.Route, s api.Sheet) {
	t.Helper()
	wantRunError(t, x, r, strings.Repeat("-", len(r.Visits)+1), api.ErrArg)
	wantBestError(t, x, r, "", api.ErrArg)
	wantValidError(t, x, r, s, api.ErrArg)
}

// P18.1 to P18.3: types that do not exist.
func TestTypesThatDoNotExist(t *testing.T) {
	for _, types := range []string{"0>0 0-100 60/2", "0>0 0-100 60/2, 0>0 0-100 60/2, 0>0 0-100 60/2"} {
		x := line(types, "- 1@0-99+0")
		for _, number := range sample.Ints() {
			r := sample.Route(number, 0, "A")
			if number < 0 || number >= len(x.Types) {
				s, _ := drive.Run(x, sample.Route(0, 0, "A"), sample.Rests("--"))
				wantArg(t, x, r, s)
			} else {
				wantRun(t, x, r, "--", "0 10/10/10 17 5m")
				wantBest(t, x, r, "", "0 10/10/10 17 5m")
			}
		}
	}
	if _, err := drive.Run(api.Instance{}, api.Route{}, sample.Rests("-")); err != api.ErrArg {
		t.Error(err)
	}
}

// P18.1 to P18.3: a Start that is no tick.
func TestStartsThatAreNoTicks(t *testing.T) {
	x := sample.Town("", "0>0 0-4096 1/0, 0>0 7-4000 1/0", "- 0@0-4096+0")
	for _, start := range sample.Ints() {
		r := sample.Route(0, start, "A")
		if start < 0 || start > 4096 {
			s, _ := drive.Run(x, sample.Route(0, 0, "A"), sample.Rests("--"))
			wantArg(t, x, r, s)
			wantArg(t, x, sample.Route(1, start, "A"), s)
			continue
		}
		s, err := drive.Run(x, r, sample.Rests("--"))
		if err != api.OK || s.Depart != start || s.End != start {
			t.Error(start, sample.Show(s), err)
		}
		wantBest(t, x, r, "", sample.Show(s))
	}
	wantRunError(t, x, sample.Route(1, 4096, "A"), "--", api.ErrClose)
	wantRunError(t, x, sample.Route(1, 4001, "A"), "--", api.ErrClose)
	wantRun(t, x, sample.Route(1, 4000, "A"), "--", "4000 4000/4000/4000 4000 0m")
}

// P18.1 to P18.3: orders that do not exist, and stops that their orders do not have.
func TestVisitsThatDoNotExist(t *testing.T) {
	x := line("1>1 0-4096 4000/2", "1@0-4096+0 1@0-4096+0, 1@0-4096+0 -, - 1@0-4096+0")
	good, _ := drive.Run(x, sample.Route(0, 0, "abCA"), sample.Rests("-----"))
	wantValidError(t, x, sample.Route(0, 0, "abCA"), good, api.OK)
	for at := range 4 {
		for _, number := range sample.Ints() {
			for _, drop := range []bool{false, true} {
				r := sample.Route(0, 0, "abCA")
				r.Visits[at] = api.Visit{Order: number, Drop: drop}
				if number == 0 || number == 1 && !drop || number == 2 && drop {
					wantRun(t, x, r, "-----", sample.Show(good))
				} else {
					wantArg(t, x, r, good)
				}
			}
		}
	}
	for _, s := range []string{"B", "c", "aB", "ca", "aAbc", "d", "D", "abCAd"} {
		wantArg(t, x, sample.Route(0, 0, s), good)
	}
}

// P18.1: as many rests as visits and one more.
func TestRunCountsTheRests(t *testing.T) {
	x := line("0>1 0-200 99/0", "1@0-99+4 2@0-99+6, - 1@0-99+1")
	for _, s := range []string{"", "a", "aA", "aAB", "aABBBB"} {
		for count := range 30 {
			for _, letter := range []string{"-", "*"} {
				given := strings.Repeat(letter, count)
				if _, err := drive.Run(x, sample.Route(0, 0, s), sample.Rests(given)); (err == api.OK) != (count == len(s)+1) || err != api.OK && err != api.ErrArg {
					t.Error(s, given, err)
				}
			}
		}
		wantRunError(t, x, sample.Route(0, 0, s), "", api.ErrArg)
	}
}

// P18.1: an arc is missing at the first visit, at another one, or at the end.
func TestRunWithoutAnArc(t *testing.T) {
	x := sample.Town("0>1 5m 10, 1>2 5m 10, 2>3 5m 10", "0>3 0-100 60/2", "1@0-99+0 2@0-99+0")
	wantRun(t, x, sample.Route(0, 0, "aA"), "---", "0 10/10/10 20/20/20 30 15m")
	arcs := x.Net.Arcs
	for missing := range 3 {
		x.Net.Arcs = slices.Delete(slices.Clone(arcs), missing, missing+1)
		for _, given := range allRests(3) {
			wantRunError(t, x, sample.Route(0, 0, "aA"), sample.ShowRests(given), api.ErrArc)
		}
		wantBestError(t, x, sample.Route(0, 0, "aA"), "", api.ErrArc)
		wantBestError(t, x, sample.Route(0, 0, "aA"), "-*", api.ErrArc)
	}
	x.Net.Arcs = nil
	wantRunError(t, x, sample.Route(0, 0, "aA"), "---", api.ErrArc)
	x.Net.Arcs = slices.Clone(arcs)
	x.Net.Arcs[1].Profile = 1
	wantRunError(t, x, sample.Route(0, 0, "aA"), "---", api.ErrArc)
}

// P18.1: a place that the network does not have has no arc either.
func TestRunWithoutAPlace(t *testing.T) {
	for _, place := range sample.Ints() {
		if 0 <= place && place < 5 {
			continue
		}
		from, to, visited := example("30/4"), example("30/4"), example("30/4")
		from.Types[0].From, to.Types[0].To, visited.Orders[0].Drop.Place = place, place, place
		for i, x := range []api.Instance{from, to, visited} {
			want := api.ErrArc
			if i == 2 && place < 0 {
				want = api.ErrArg
			}
			if _, err := drive.Run(x, sample.Route(0, 0, "A"), sample.Rests("--")); err != want {
				t.Errorf("%s: Run = %d; want %d", sample.About(x, sample.Route(0, 0, "A")), err, want)
			}
			if _, err := drive.Best(x, sample.Route(0, 0, "A")); err != want {
				t.Errorf("%s: Best = %d; want %d", sample.About(x, sample.Route(0, 0, "A")), err, want)
			}
		}
	}
}

// P18.1: arrivals before Open, at Open, in between, at Close and one tick later.
func TestRunWindows(t *testing.T) {
	x := line("1>1 0-100 60/0", "- 0@30-40+2, - 2@12-47+3")
	for start, want := range map[int]string{
		0:  "0 7/30/32 42 5m",
		22: "22 29/30/32 42 5m",
		23: "23 30/30/32 42 5m",
		24: "24 31/31/33 43 5m",
		33: "33 40/40/42 52 5m",
	} {
		wantRun(t, x, sample.Route(0, start, "A"), "--", want)
	}
	wantRunError(t, x, sample.Route(0, 34, "A"), "--", api.ErrWindow)
	wantRunError(t, x, sample.Route(0, 4096, "A"), "--", api.ErrWindow)
	for start, want := range map[int]string{1: "1 11/12/15 22 5m", 2: "2 12/12/15 22 5m", 37: "37 47/47/50 57 5m"} {
		wantRun(t, x, sample.Route(0, start, "B"), "--", want)
	}
	wantRunError(t, x, sample.Route(0, 38, "B"), "--", api.ErrWindow)
	x = line("1>1 0-100 60/0", "- 1@30-30+2")
	wantRun(t, x, sample.Route(0, 0, "A"), "--", "0 0/30/32 32 0m")
	wantRun(t, x, sample.Route(0, 30, "A"), "--", "30 30/30/32 32 0m")
	wantRunError(t, x, sample.Route(0, 31, "A"), "--", api.ErrWindow)
}

// P18.1: a service may end after Close of its stop, but not the route after that of the type.
func TestRunServicesEndLater(t *testing.T) {
	x := line("1>1 0-4096 60/4096", "- 1@0-5+4000, - 1@0-4096+4096")
	wantRun(t, x, sample.Route(0, 5, "A"), "--", "5 5/5/4005 4005 0m")
	wantRunError(t, x, sample.Route(0, 0, "AA"), "---", api.ErrWindow)
	wantRunError(t, x, sample.Route(0, 0, "AB"), "---", api.ErrClose)
	wantRun(t, x, sample.Route(0, 0, "B"), "--", "0 0/0/4096 4096 0m")
	wantRun(t, x, sample.Route(0, 0, ""), "*", "4096* 4096 0m")
	wantRun(t, x, sample.Route(0, 0, "B"), "--", "0 0/0/4096 4096 0m")
	wantRunError(t, x, sample.Route(0, 0, "B"), "-*", api.ErrClose)
	wantRunError(t, x, sample.Route(0, 0, "B"), "**", api.ErrClose)
	wantRunError(t, x, sample.Route(0, 1, "B"), "--", api.ErrClose)
	wantRunError(t, x, sample.Route(0, 0, "BB"), "---", api.ErrClose)
	wantRunError(t, x, sample.Route(0, 0, "BB"), "-*-", api.ErrWindow)
}

// P18.1: the end is at Close of the type at the latest.
func TestRunEndsInTheShift(t *testing.T) {
	for last, want := range map[int]api.Errno{100: api.OK, 43: api.OK, 42: api.OK, 41: api.ErrClose, 30: api.ErrClose, 29: api.ErrClose, 0: api.ErrClose} {
		x := example("30/4")
		x.Types[0].Close = last
		wantRunError(t, x, sample.Route(0, 0, "A"), "--", want)
		x.Types[0].Close = min(last+4, 100)
		wantRunError(t, x, sample.Route(0, 0, "A"), "-*", want)
		x.Types[0].Close = last
		wantRunError(t, x, sample.Route(0, 0, "A"), "*-", want)
	}
}

// P18.1: the driving time without rests, with one at the beginning, after a visit, and after the last one.
func TestRunDrives(t *testing.T) {
	for given, most := range map[string]int{"----": 50, "*---": 50, "-*--": 40, "--*-": 30, "---*": 40, "**--": 40, "-**-": 20, "-*-*": 30, "--**": 30, "-***": 20, "****": 20, "*--*": 40, "*-*-": 30} {
		for drive := 1; drive < 60; drive++ {
			x := sample.Town("0>1 10, 1>2 20, 2>3 10, 3>0 10", "0>0 0-400 50/3", "1@0-200+4 2@50-200+1, - 3@0-200+9")
			x.Types[0].Drive = drive
			want := api.OK
			if drive < most {
				want = api.ErrRest
			}
			wantRunError(t, x, sample.Route(0, 0, "aAB"), given, want)
		}
	}
}

// P18.1: waiting, services and rests are no driving, and ways on which the vehicle stays are none.
func TestRunWaits(t *testing.T) {
	x := sample.Town("0>1 10, 1>0 10", "0>0 0-4096 20/500, 0>0 0-4096 19/500", "1@900-1200+300 1@1800-2000+400")
	for _, given := range []string{"---", "*--"} {
		wantRunError(t, x, sample.Route(0, 0, "aA"), given, api.OK)
		wantRunError(t, x, sample.Route(1, 0, "aA"), given, api.ErrRest)
	}
	for _, given := range []string{"-*-", "--*", "-**", "**-", "***"} {
		wantRunError(t, x, sample.Route(0, 0, "aA"), given, api.OK)
		wantRunError(t, x, sample.Route(1, 0, "aA"), given, api.OK)
	}
	x = sample.Town("0>1 10, 1>0 9", "0>1 0-4096 9/0, 0>1 0-4096 10/0", "- 1@0-4096+0")
	wantRunError(t, x, sample.Route(0, 0, "A"), "--", api.ErrRest)
	wantRunError(t, x, sample.Route(0, 0, "AAAA"), "-----", api.ErrRest)
	wantRunError(t, x, sample.Route(1, 0, "AAAA"), "-----", api.OK)
	wantRunError(t, x, sample.Route(1, 0, "AAAA"), "--*--", api.OK)
}

// P18.1: delays are driving, and so is what a later departure takes more or less.
func TestRunDrivesAsLongAsItTakes(t *testing.T) {
	x := sample.Town("0>1 0:20 10:22 12:40 ~15:5", "0>1 0-100 20/4", "- 1@0-100+0")
	for start, takes := range []int{0: 20, 1: 20, 2: 19, 5: 16, 10: 12, 11: 20, 12: 28, 13: 28, 15: 33} {
		if takes == 0 {
			continue
		}
		for _, most := range []int{takes - 1, takes, takes + 1} {
			x.Types[0].Drive = most
			want := api.OK
			if most < takes {
				want = api.ErrRest
			}
			wantRunError(t, x, sample.Route(0, start, "A"), "--", want)
		}
	}
}

// P18.1: of the errors at one visit, or at the end, the first one in the order of the section.
func TestRunErrorsAtOneVisit(t *testing.T) {
	for _, c := range []struct {
		arcs, types, orders string
		want                api.Errno
	}{
		{"1>0 10", "0>0 0-5 5/1", "- 1@0-5+0", api.ErrArc},
		{"0>1 10, 1>0 10", "0>0 0-5 5/1", "- 1@0-5+0", api.ErrWindow},
		{"0>1 10, 1>0 10", "0>0 0-5 5/1", "- 1@0-10+0", api.ErrRest},
		{"0>1 5", "0>0 0-5 5/1", "- 1@0-10+0", api.ErrArc},
		{"0>1 5, 1>0 5", "0>0 0-5 5/1", "- 1@0-10+0", api.ErrClose},
		{"0>1 5, 1>0 5", "0>0 0-10 5/1", "- 1@0-10+0", api.ErrRest},
		{"0>1 5, 1>0 5", "0>0 0-10 10/1", "- 1@0-10+0", api.OK},
	} {
		wantRunError(t, sample.Town(c.arcs, c.types, c.orders), sample.Route(0, 0, "A"), "--", c.want)
	}
}

// P18.1: of the errors at several visits, that of the first one; that of the end at last.
func TestRunErrorsAtSeveralVisits(t *testing.T) {
	// The visits are too late (a), without an arc (b), and too much driving (c); A, B and C are right, and there is no way to the end.
	x := sample.Town("0>1 10, 1>2 10, 2>3 10, 3>4 30, 1>3 10, 3>1 10", "0>0 0-30 40/0, 0>0 0-9 40/0", "1@0-9+0 1@0-99+0, 0@0-99+0 2@0-99+0, 4@0-99+0 3@0-99+0")
	for s, want := range map[string]api.Errno{
		"a": api.ErrWindow, "abc": api.ErrWindow, "acb": api.ErrWindow, "Aab": api.ErrWindow, "Abac": api.ErrArc, "ABab": api.ErrArc,
		"ABCca": api.ErrRest, "ABCcb": api.ErrRest, "ACcb": api.ErrRest, "ACCac": api.ErrWindow, "ACb": api.ErrArc, "ABC": api.ErrArc, "ACA": api.ErrArc, "AcC": api.ErrArc, "CA": api.ErrArc,
	} {
		given := strings.Repeat("-", len(s)+1)
		wantRunError(t, x, sample.Route(0, 0, s), given, want)
		wantRunError(t, x, sample.Route(1, 0, s), given, want)
	}
}
