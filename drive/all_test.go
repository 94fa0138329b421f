package drive_test

import (
	"math/rand"
	"reflect"
	"slices"
	"testing"

	"lorry/api"
	"lorry/drive"
	"lorry/internal/sample"
)

// answers are the results of all functions. Texts of schedules are their values; nil and empty lists are the same.
type answers struct {
	Run, Best string
	Since     []int
	Errors    [4]api.Errno
}

func answersOf(x api.Instance, r api.Route, given []bool, s api.Sheet) answers {
	var a answers
	run, e0 := drive.Run(x, r, given)
	best, e1 := drive.Best(x, r)
	since, e2 := drive.Since(x, r, s)
	a.Run, a.Best, a.Since = sample.Show(run), sample.Show(best), slices.Concat(since)
	a.Errors = [4]api.Errno{e0, e1, e2, drive.Valid(x, r, s)}
	return a
}

func modelOf(x api.Instance, r api.Route, given []bool, s api.Sheet) answers {
	var a answers
	run, _, e0 := runOf(x, r, given)
	best, e1 := bestOf(x, r)
	since, e2 := checkOf(x, r, s)
	a.Run, a.Best, a.Since = sample.Show(run), sample.Show(best), slices.Concat(since)
	a.Errors = [4]api.Errno{e0, e1, e2, e2}
	return a
}

// wantModel compares all functions with their models.
func wantModel(t *testing.T, x api.Instance, r api.Route, given []bool, s api.Sheet) answers {
	t.Helper()
	got, want := answersOf(x, r, given, s), modelOf(x, r, given, s)
	if !reflect.DeepEqual(got, want) {
		t.Errorf("%s, given %s, %s: %+v; want %+v", sample.About(x, r), sample.ShowRests(given), sample.Show(s), got, want)
	}
	return got
}

// drawnSheet returns a schedule for a route, which can be wrong.
func drawnSheet(r *rand.Rand, x api.Instance, one api.Route, given []bool) api.Sheet {
	s, err := drive.Run(x, one, given)
	if err != api.OK || r.Intn(3) == 0 {
		s, _ = drive.Best(x, one)
	}
	if len(s.Times) == 0 && r.Intn(2) == 0 {
		s.Times = make([]api.Time, len(one.Visits))
	}
	if r.Intn(3) == 0 {
		s = sample.OneOf(r, append(withAnotherNumber(s), withAnotherRest(s)...)...)
	}
	return s
}

// P18.1 to P18.6: all functions, for routes with up to 7 visits.
func TestDrawnInstances(t *testing.T) {
	r := rand.New(rand.NewSource(1801))
	errors, more := map[api.Errno][4]int{}, map[int]int{}
	for range 20000 {
		size := sample.OneOf(r, 4, 10, 30, 300)
		x := sample.Draw(r, size, 1+r.Intn(4))
		one := sample.DrawRoute(r, x, r.Intn(8), size)
		given := sample.DrawRests(r, len(one.Visits)+1+sample.OneOf(r, 0, 0, 0, 0, 0, 0, 0, 0, 0, 1))
		one.Rests = sample.DrawRests(r, sample.OneOf(r, 0, 0, r.Intn(len(one.Visits)+2)))
		switch r.Intn(12) {
		case 0:
			one = sample.Damage(r, x, one)
		case 1, 2, 3, 4, 5, 6:
			sample.Tire(r, &x, one)
		}
		got := wantModel(t, x, one, given, drawnSheet(r, x, one, given))
		wantPromises(t, r, x, one, given)
		for i, err := range got.Errors {
			counts := errors[err]
			counts[i]++
			errors[err] = counts
		}
		if best, err := drive.Best(x, one); err == api.OK {
			more[countOf(best)-countOf(api.Sheet{Times: timesOf(one.Rests)})]++
		}
	}
	for err, least := range map[api.Errno]int{api.OK: 3000, api.ErrArg: 500, api.ErrArc: 500, api.ErrWindow: 500, api.ErrClose: 500, api.ErrRest: 500} {
		if counts := errors[err]; slices.Min(counts[:2]) < least || slices.Min(counts[2:]) < 50 {
			t.Errorf("the error %d occurs %v times", err, counts)
		}
	}
	for count, least := range map[int]int{0: 2000, 1: 500, 2: 100, 3: 30, 4: 5} {
		if more[count] < least {
			t.Errorf("there are %d routes with %d more rests", more[count], count)
		}
	}
	r = rand.New(rand.NewSource(1802))
	for range 500 {
		wantValid(t, sample.Draw(r, sample.OneOf(r, 4, 10, 30, 300), 1+r.Intn(10)))
	}
}

// countOf returns how many rests a schedule has.
func countOf(s api.Sheet) int {
	count := 0
	for _, one := range append([]api.Time{{Rest: s.Rest}}, s.Times...) {
		if one.Rest {
			count++
		}
	}
	return count
}

func timesOf(l []bool) []api.Time {
	var times []api.Time
	for _, rest := range l {
		times = append(times, api.Time{Rest: rest})
	}
	return times
}

// wantPromises looks at the results alone.
func wantPromises(t *testing.T, r *rand.Rand, x api.Instance, one api.Route, given []bool) {
	t.Helper()
	if s, err := drive.Run(x, one, given); err == api.OK {
		wantTimes(t, x, one, s)
		later := one
		later.Start = min(one.Start+sample.OneOf(r, 0, 1, 2, 5, r.Intn(100)), api.MaxTime)
		if l, err := drive.Run(x, later, given); err == api.OK {
			wantLater(t, x, one, s, l)
		}
	}
	best, err := drive.Best(x, one)
	if err == api.OK {
		wantTimes(t, x, one, best)
		wantValidError(t, x, one, best, api.OK)
	}
	if len(one.Rests) > len(one.Visits)+1 {
		return
	}
	for _, given := range following(one) {
		s, e := drive.Run(x, one, given)
		if e == api.OK && (err != api.OK || s.End < best.End) {
			t.Errorf("%s: Best = %s, %d, but Run = %s", sample.About(x, one), sample.Show(best), err, sample.Show(s))
		}
	}
}

// wantTimes expects what P18.6 says.
func wantTimes(t *testing.T, x api.Instance, r api.Route, s api.Sheet) {
	t.Helper()
	last := s.Depart
	for i, one := range s.Times {
		stop := x.Orders[r.Visits[i].Order].Pick
		if r.Visits[i].Drop {
			stop = x.Orders[r.Visits[i].Order].Drop
		}
		rest := 0
		if one.Rest {
			rest = x.Types[r.Type].Rest
		}
		if one.Arrive < last || one.Begin < one.Arrive || one.Begin < stop.Open || one.Begin > stop.Close || one.Depart != one.Begin+stop.Service+rest {
			t.Errorf("%s: wrong times in %s", sample.About(x, r), sample.Show(s))
		}
		last = one.Depart
	}
	if s.End < last {
		t.Errorf("%s: wrong end in %s", sample.About(x, r), sample.Show(s))
	}
}

// wantLater expects what P18.5 says.
func wantLater(t *testing.T, x api.Instance, r api.Route, early, late api.Sheet) {
	t.Helper()
	for i, one := range early.Times {
		if late.Times[i].Arrive < one.Arrive {
			t.Errorf("%s: %s, but then %s", sample.About(x, r), sample.Show(early), sample.Show(late))
		}
	}
	if late.End < early.End {
		t.Errorf("%s: %s, but then %s", sample.About(x, r), sample.Show(early), sample.Show(late))
	}
}

// P18.5, P18.6: all values of Start, one after the other.
func TestLaterStarts(t *testing.T) {
	r := rand.New(rand.NewSource(1803))
	schedules := 0
	for range 150 {
		x := sample.Draw(r, 9, 3)
		x.Types[0].Drive = api.MaxTime
		one := sample.DrawRoute(r, x, 1+r.Intn(5), 9)
		one.Type = 0
		given := sample.DrawRests(r, len(one.Visits)+1)
		var last api.Sheet
		for one.Start = range 100 {
			s, err := drive.Run(x, one, given)
			if err != api.OK {
				continue
			}
			wantTimes(t, x, one, s)
			if len(last.Times) > 0 {
				wantLater(t, x, one, last, s)
			}
			last = s
			schedules++
		}
	}
	if schedules < 2000 {
		t.Errorf("there are %d schedules", schedules)
	}
}

// P18.2, P18.4: routes with up to 20 visits, whose lists of rests are too many to try each.
func TestLongRoutes(t *testing.T) {
	r := rand.New(rand.NewSource(1804))
	most := map[bool]int{}
	for range 20000 {
		size := sample.OneOf(r, 4, 10, 30, 100)
		x := sample.Draw(r, size, 1+r.Intn(10))
		one := sample.DrawRoute(r, x, 8+r.Intn(13), size)
		one.Rests = sample.DrawRests(r, sample.OneOf(r, 0, 0, r.Intn(4)))
		for i := range x.Orders {
			x.Orders[i].Pick.Close, x.Orders[i].Drop.Close = widened(x.Orders[i].Pick), widened(x.Orders[i].Drop)
		}
		for i := range x.Types {
			x.Types[i].Close = api.MaxTime
		}
		sample.Tire(r, &x, one)
		got, err := drive.Best(x, one)
		given, found := bestByStates(x, one)
		if !found {
			given = append(slices.Clone(one.Rests), make([]bool, len(one.Visits)+1-len(one.Rests))...)
		}
		want, _, e := runOf(x, one, given)
		if err != e || sample.Show(got) != sample.Show(want) || found != (err == api.OK) {
			t.Errorf("%s: Best = %s, %d; want %s, %d", sample.About(x, one), sample.Show(got), err, sample.Show(want), e)
		}
		if err == api.OK {
			most[countOf(got) >= 5]++
		}
	}
	if most[false] < 1000 || most[true] < 200 {
		t.Errorf("the numbers of rests are %v", most)
	}
}

// widened returns a Close that is missed by no one, most times.
func widened(s api.Stop) int {
	if s.Place < 0 || s.Open%3 == 0 {
		return s.Close
	}
	return api.MaxTime
}
