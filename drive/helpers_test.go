package drive_test

import (
	"reflect"
	"strings"
	"testing"

	"lorry/api"
	"lorry/drive"
	"lorry/instance"
	"lorry/internal/sample"
)

func wantValid(t *testing.T, x api.Instance) {
	t.Helper()
	if faults := instance.Check(x); len(faults) > 0 {
		t.Errorf("%s has %d faults; the first one is %+v", sample.About(x, api.Route{}), len(faults), faults[0])
	}
}

// wantRun expects a schedule of Run, whatever the Rests of the route are.
func wantRun(t *testing.T, x api.Instance, r api.Route, given, want string) {
	t.Helper()
	wantValid(t, x)
	for _, s := range []string{"", "*", "-", given, "*****", strings.Repeat("*", 40)} {
		r.Rests = sample.Rests(s)
		if got, err := drive.Run(x, r, sample.Rests(given)); err != api.OK || sample.Show(got) != want {
			t.Errorf("%s: Run with %s = %s, %d; want %s", sample.About(x, r), given, sample.Show(got), err, want)
		}
	}
}

// wantRunError expects an error of Run, whatever the Rests of the route are.
func wantRunError(t *testing.T, x api.Instance, r api.Route, given string, want api.Errno) {
	t.Helper()
	wantValid(t, x)
	for _, s := range []string{"", "*", "-", given, "*****", strings.Repeat("*", 40)} {
		r.Rests = sample.Rests(s)
		got, err := drive.Run(x, r, sample.Rests(given))
		if err != want || want != api.OK && !isZero(got) {
			t.Errorf("%s: Run with %s = %s, %d; want the error %d", sample.About(x, r), given, sample.Show(got), err, want)
		}
	}
}

func isZero(s api.Sheet) bool {
	return len(s.Times) == 0 && reflect.DeepEqual(api.Sheet{Rest: s.Rest, Depart: s.Depart, End: s.End, Miles: s.Miles}, api.Sheet{})
}

// wantBest expects a schedule of Best for fixed rests.
func wantBest(t *testing.T, x api.Instance, r api.Route, fixed, want string) {
	t.Helper()
	wantValid(t, x)
	r.Rests = sample.Rests(fixed)
	if got, err := drive.Best(x, r); err != api.OK || sample.Show(got) != want {
		t.Errorf("%s: Best = %s, %d; want %s", sample.About(x, r), sample.Show(got), err, want)
	}
}

func wantBestError(t *testing.T, x api.Instance, r api.Route, fixed string, want api.Errno) {
	t.Helper()
	wantValid(t, x)
	r.Rests = sample.Rests(fixed)
	if got, err := drive.Best(x, r); err != want || !isZero(got) {
		t.Errorf("%s: Best = %s, %d; want the error %d", sample.About(x, r), sample.Show(got), err, want)
	}
}

// wantValidError expects an error of Valid and of Since.
func wantValidError(t *testing.T, x api.Instance, r api.Route, s api.Sheet, want api.Errno) {
	t.Helper()
	if got := drive.Valid(x, r, s); got != want {
		t.Errorf("%s: Valid of %s = %d; want %d", sample.About(x, r), sample.Show(s), got, want)
	}
	if l, err := drive.Since(x, r, s); err != want || err != api.OK && len(l) > 0 {
		t.Errorf("%s: Since of %s = %v, %d; want the error %d", sample.About(x, r), sample.Show(s), l, err, want)
	}
}
