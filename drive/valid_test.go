package drive_test

import (
	"fmt"
	"slices"
	"strings"
	"testing"

	"lorry/api"
	"lorry/drive"
	"lorry/internal/sample"
)

// sheet returns the schedule of Run.
func sheet(t *testing.T, x api.Instance, r api.Route, given string) api.Sheet {
	t.Helper()
	s, err := drive.Run(x, r, sample.Rests(given))
	if err != api.OK {
		t.Fatalf("%s: Run with %s returns the error %d", sample.About(x, r), given, err)
	}
	return s
}

func wantSince(t *testing.T, x api.Instance, r api.Route, s api.Sheet, want ...int) {
	t.Helper()
	wantValid(t, x)
	if got, err := drive.Since(x, r, s); err != api.OK || !slices.Equal(got, want) {
		t.Errorf("%s: Since of %s = %v, %d; want %v", sample.About(x, r), sample.Show(s), got, err, want)
	}
	if err := drive.Valid(x, r, s); err != api.OK {
		t.Errorf("%s: Valid of %s = %d", sample.About(x, r), sample.Show(s), err)
	}
}

// P18.3: the driving times with all rests.
func TestSince(t *testing.T) {
	x := sample.Town("0>1 10, 1>2 20, 2>3 30, 3>0 40", "0>0 0-4000 100/8", "- 1@500-900+30, - 2@0-900+50, - 3@0-900+70")
	r := sample.Route(0, 0, "ABC")
	for given, want := range map[string][]int{
		"----": {10, 30, 60, 100}, "*---": {10, 30, 60, 100},
		"-*--": {10, 20, 50, 90}, "**--": {10, 20, 50, 90},
		"--*-": {10, 30, 30, 70}, "*-*-": {10, 30, 30, 70},
		"---*": {10, 30, 60, 40}, "*--*": {10, 30, 60, 40},
		"-**-": {10, 20, 30, 70}, "***-": {10, 20, 30, 70},
		"-*-*": {10, 20, 50, 40}, "**-*": {10, 20, 50, 40},
		"--**": {10, 30, 30, 40}, "*-**": {10, 30, 30, 40},
		"-***": {10, 20, 30, 40}, "****": {10, 20, 30, 40},
	} {
		wantSince(t, x, r, sheet(t, x, r, given), want...)
		for fixed := range given {
			one := r
			one.Rests = sample.Rests(given[:fixed+1])
			wantSince(t, x, one, sheet(t, x, r, given), want...)
			one.Rests[fixed] = !one.Rests[fixed]
			wantValidError(t, x, one, sheet(t, x, r, given), api.ErrState)
		}
	}
}

// P18.3: where the vehicle stays, without visits, and with travel times that depend on the departure.
func TestSinceOfOtherRoutes(t *testing.T) {
	x := sample.Town("0>1 0:10 20:25 21:40 ~30:5, 1>0 7", "0>0 0-400 100/8, 0>1 0-400 100/8, 1>1 3-400 1/8", "1@0-99+4 1@50-99+6")
	wantSince(t, x, sample.Route(0, 0, ""), sheet(t, x, sample.Route(0, 0, ""), "-"), 0)
	wantSince(t, x, sample.Route(0, 0, ""), sheet(t, x, sample.Route(0, 0, ""), "*"), 0)
	wantSince(t, x, sample.Route(1, 0, ""), sheet(t, x, sample.Route(1, 0, ""), "*"), 8)
	wantSince(t, x, sample.Route(2, 0, "aA"), sheet(t, x, sample.Route(2, 0, "aA"), "-*-"), 0, 0, 0)
	for start, takes := range map[int]int{0: 10, 8: 8, 20: 5, 21: 19, 29: 19, 30: 24} {
		wantSince(t, x, sample.Route(1, start, "aA"), sheet(t, x, sample.Route(1, start, "aA"), "---"), takes, takes, takes)
		wantSince(t, x, sample.Route(0, start, "aA"), sheet(t, x, sample.Route(0, start, "aA"), "-*-"), takes, 0, 7)
		wantSince(t, x, sample.Route(0, start, "aA"), sheet(t, x, sample.Route(0, start, "aA"), "---"), takes, takes, takes+7)
		if start >= 8 {
			wantSince(t, x, sample.Route(0, start-8, "aA"), sheet(t, x, sample.Route(0, start-8, "aA"), "*-*"), takes, takes, 7)
		}
	}
}

// P18.3: no number can be another one, and no rest either, unless rests take no time.
func TestValidComparesEverything(t *testing.T) {
	x := sample.Town("0>1 3m 10, 1>2 4m 10, 2>0 5m 10", "0>0 0-400 100/0, 0>0 0-400 100/8", "1@0-90+4 2@0-90+6")
	for number := range x.Types {
		for _, given := range allRests(3) {
			r := sample.Route(number, 5, "aA")
			s := sheet(t, x, r, sample.ShowRests(given))
			wantValidError(t, x, r, s, api.OK)
			for _, other := range withAnotherNumber(s) {
				wantValidError(t, x, r, other, api.ErrState)
			}
			for _, other := range withAnotherRest(s) {
				wantValidError(t, x, r, other, []api.Errno{api.OK, api.ErrState}[number])
			}
		}
	}
}

// changed returns a schedule with a change.
func changed(s api.Sheet, change func(s *api.Sheet)) api.Sheet {
	s.Times = slices.Clone(s.Times)
	change(&s)
	return s
}

func withAnotherNumber(s api.Sheet) []api.Sheet {
	var l []api.Sheet
	for _, step := range []int{-1, 1, 8, -8, 1 << 40} {
		l = append(l, changed(s, func(s *api.Sheet) { s.Depart += step }))
		l = append(l, changed(s, func(s *api.Sheet) { s.End += step }))
		l = append(l, changed(s, func(s *api.Sheet) { s.Miles += step }))
		for i := range s.Times {
			l = append(l, changed(s, func(s *api.Sheet) { s.Times[i].Arrive += step }))
			l = append(l, changed(s, func(s *api.Sheet) { s.Times[i].Begin += step }))
			l = append(l, changed(s, func(s *api.Sheet) { s.Times[i].Depart += step }))
		}
	}
	return l
}

func withAnotherRest(s api.Sheet) []api.Sheet {
	l := []api.Sheet{changed(s, func(s *api.Sheet) { s.Rest = !s.Rest })}
	for i := range s.Times {
		l = append(l, changed(s, func(s *api.Sheet) { s.Times[i].Rest = !s.Times[i].Rest }))
	}
	return l
}

// P18.3: as many Times as visits, and at most as many Rests as there can be.
func TestValidCounts(t *testing.T) {
	x := line("0>1 0-200 99/0", "1@0-99+4 1@0-99+6")
	for _, s := range []string{"", "a", "aA", "aAa"} {
		r := sample.Route(0, 0, s)
		good := sheet(t, x, r, strings.Repeat("-", len(s)+1))
		for count := range 30 {
			want := api.OK
			if count != len(s) {
				want = api.ErrArg
			}
			other := good
			other.Times = slices.Concat(good.Times, make([]api.Time, 30))[:count]
			wantValidError(t, x, r, other, want)
		}
		for count := range 30 {
			want := api.OK
			if count > len(s)+1 {
				want = api.ErrArg
			}
			one := r
			one.Rests = make([]bool, count)
			wantValidError(t, x, one, good, want)
		}
	}
}

// P18.3: a rest that does not follow the route, in its order behind what is not possible, and before what Run refuses.
func TestValidErrors(t *testing.T) {
	x := ring("20/8", 0, 0, 0)
	r := sample.Route(0, 0, "ABC")
	good := sheet(t, x, r, "--*-")
	follow := func(fixed string) api.Route {
		one := r
		one.Rests = sample.Rests(fixed)
		return one
	}
	rest := func(s api.Sheet, given string) api.Sheet {
		s.Times, s.Rest = slices.Clone(s.Times), given[0] == '*'
		for i := range s.Times {
			s.Times[i].Rest = given[i+1] == '*'
		}
		return s
	}
	for given, want := range map[string]api.Errno{"--*-": api.OK, "----": api.ErrRest, "---*": api.ErrRest, "-*--": api.ErrRest, "*---": api.ErrRest, "-*-*": api.ErrState, "--**": api.ErrState, "-**-": api.ErrState, "*-*-": api.ErrState} {
		for _, fixed := range []string{"", "-", "*", "--", "-*", "--*-", "---", "*-*-", "----", "-*-*"} {
			expected := want
			if given[:len(fixed)] != fixed {
				expected = api.ErrState
			}
			wantValidError(t, x, follow(fixed), rest(good, given), expected)
		}
		wantValidError(t, x, follow("-----"), rest(good, given), api.ErrArg)
		wantValidError(t, x, sample.Route(1, 0, "ABC"), rest(good, given), api.ErrArg)
		wantValidError(t, x, sample.Route(0, -1, "ABC"), rest(good, given), api.ErrArg)
		wantValidError(t, x, sample.Route(0, 0, "ABc"), rest(good, given), api.ErrArg)
	}
	wrong := good
	wrong.End++
	wantValidError(t, x, r, wrong, api.ErrState)
	x.Types[0].Close = 47
	wantValidError(t, x, r, good, api.ErrClose)
	wantValidError(t, x, r, wrong, api.ErrClose)
	wantValidError(t, x, follow("*"), good, api.ErrState)
	x.Orders[2].Drop.Close = 37
	wantValidError(t, x, r, good, api.ErrWindow)
	wantValidError(t, x, r, wrong, api.ErrWindow)
	wantValidError(t, x, follow("-*"), good, api.ErrState)
	x.Net.Arcs[1].Profile = 1
	wantValidError(t, x, r, good, api.ErrArc)
	wantValidError(t, x, follow("---"), wrong, api.ErrState)
	wantValidError(t, x, follow("-----"), wrong, api.ErrArg)
}

// P18.3: only the schedule of the same route, type and Start is right.
func TestValidOfOtherRoutes(t *testing.T) {
	x := ring("50/8", 0, 0, 0)
	x.Types = append(x.Types, x.Types[0], x.Types[0])
	x.Types[1].Name, x.Types[1].Open = "late", 1
	x.Types[2].Name, x.Types[2].Rest = "long", 9
	s := sheet(t, x, sample.Route(0, 0, "ABC"), "--*-")
	wantValidError(t, x, sample.Route(0, 0, "ABC"), s, api.OK)
	wantValidError(t, x, sample.Route(1, 0, "ABC"), s, api.ErrState)
	wantValidError(t, x, sample.Route(2, 0, "ABC"), s, api.ErrState)
	wantValidError(t, x, sample.Route(0, 1, "ABC"), s, api.ErrState)
	wantValidError(t, x, sample.Route(0, 0, "AAA"), s, api.ErrArc)
	s = sheet(t, x, sample.Route(1, 0, "ABC"), "--*-")
	wantValidError(t, x, sample.Route(1, 0, "ABC"), s, api.OK)
	wantValidError(t, x, sample.Route(1, 1, "ABC"), s, api.OK)
	wantValidError(t, x, sample.Route(0, 1, "ABC"), s, api.OK)
	wantValidError(t, x, sample.Route(0, 0, "ABC"), s, api.ErrState)
}

// P18.3, P18.4: the schedules of Run and of Best are valid for the routes that their rests follow, and only for them.
func TestValidOfRunAndBest(t *testing.T) {
	for _, limits := range []string{"40/8", "30/8", "20/8", "10/8", "30/0", "19/1"} {
		x := ring(limits, 3, 26, 40)
		r := sample.Route(0, 0, "ABC")
		for _, given := range allRests(4) {
			s, err := drive.Run(x, r, given)
			if err != api.OK {
				continue
			}
			for count := range 5 {
				for _, fixed := range allRests(count) {
					one := r
					one.Rests = fixed
					want := api.ErrState
					if slices.Equal(given[:count], fixed) {
						want = api.OK
					}
					wantValidError(t, x, one, s, want)
				}
			}
			r.Rests = given
			wantBest(t, x, r, sample.ShowRests(given), sample.Show(s))
			r.Rests = nil
		}
		if s, err := drive.Best(x, r); err == api.OK {
			wantValidError(t, x, r, s, api.OK)
		} else {
			t.Error(fmt.Sprint(limits), err)
		}
	}
}
