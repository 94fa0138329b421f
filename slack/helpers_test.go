package slack_test

import (
	"reflect"
	"slices"
	"testing"

	"lorry/api"
	"lorry/drive"
	"lorry/instance"
	"lorry/internal/sample"
	"lorry/slack"
)

// ring is an instance with a way of 10 ticks from each of the places 0 to 3 to the next one, and back to 0.
func ring(vehicle, orders string) api.Instance {
	return sample.Town("0>1 1m 10, 1>2 2m 10, 2>3 3m 10, 3>0 4m 10", "0>0 "+vehicle, orders)
}

// trip is a route with its schedule.
type trip struct {
	x api.Instance
	r api.Route
	s api.Sheet
}

// along returns the trip of the type 0 with given rests, whose schedule is expected to be a text.
func along(t *testing.T, x api.Instance, visits, rests, want string) trip {
	t.Helper()
	if faults := instance.Check(x); len(faults) > 0 {
		t.Fatalf("%s: %v", sample.About(x, api.Route{}), faults)
	}
	r := sample.Route(0, 0, visits)
	s, err := drive.Run(x, r, sample.Rests(rests))
	if err != api.OK || sample.Show(s) != want {
		t.Fatalf("%s: the schedule is %s, %d; want %s", sample.About(x, r), sample.Show(s), err, want)
	}
	return trip{x, r, s}
}

func (a trip) String() string { return sample.About(a.x, a.r) + ", " + sample.Show(a.s) }

func (a trip) wantAfter(t *testing.T, at, late int, want string) {
	t.Helper()
	if got, err := slack.After(a.x, a.r, a.s, at, late); err != api.OK || sample.Show(got) != want {
		t.Errorf("%s: After %d, %d = %s, %d; want %s", a, at, late, sample.Show(got), err, want)
	}
}

func (a trip) wantAfterError(t *testing.T, at, late int, want api.Errno) {
	t.Helper()
	if got, err := slack.After(a.x, a.r, a.s, at, late); err != want || !isZero(got) {
		t.Errorf("%s: After %d, %d = %s, %d; want the error %d", a, at, late, sample.Show(got), err, want)
	}
}

func isZero(s api.Sheet) bool {
	return len(s.Times) == 0 && reflect.DeepEqual(api.Sheet{Rest: s.Rest, Depart: s.Depart, End: s.End, Miles: s.Miles}, api.Sheet{})
}

// wantSlack expects the slacks, and with them what P19.1 to P19.3 say.
func (a trip) wantSlack(t *testing.T, want ...int) {
	t.Helper()
	got, err := slack.Slack(a.x, a.r, a.s)
	if err != api.OK || !slices.Equal(got, want) {
		t.Errorf("%s: Slack = %v, %d; want %v", a, got, err, want)
	}
	a.wantPromises(t)
}

// wantErrors expects one error of all functions.
func (a trip) wantErrors(t *testing.T, want api.Errno) {
	t.Helper()
	for _, f := range []func(api.Instance, api.Route, api.Sheet) ([]int, api.Errno){slack.Slack, slack.Latest} {
		if l, err := f(a.x, a.r, a.s); err != want || len(l) > 0 {
			t.Errorf("%s: %v, %d; want the error %d", a, l, err, want)
		}
	}
	for _, at := range []int{-1, 0, 1, len(a.r.Visits), len(a.r.Visits) + 1} {
		for _, late := range []int{-1, 0, 1, api.MaxTime, api.MaxTime + 1} {
			a.wantAfterError(t, at, late, want)
		}
	}
}

// arrivalsOf returns the arrivals at the visits and at the end.
func arrivalsOf(s api.Sheet) []int {
	var l []int
	for _, one := range s.Times {
		l = append(l, one.Arrive)
	}
	return append(l, s.End)
}

// wantPromises looks at the results alone.
func (a trip) wantPromises(t *testing.T) {
	t.Helper()
	slacks, e0 := slack.Slack(a.x, a.r, a.s)
	latest, e1 := slack.Latest(a.x, a.r, a.s)
	arrivals := arrivalsOf(a.s)
	if e0 != api.OK || e1 != api.OK || len(slacks) != len(arrivals) || len(latest) != len(arrivals) {
		t.Fatalf("%s: Slack = %v, %d; Latest = %v, %d", a, slacks, e0, latest, e1)
	}
	for at, most := range slacks {
		if most < 0 || latest[at] != arrivals[at]+most {
			t.Errorf("%s: Slack = %v, Latest = %v", a, slacks, latest)
		}
		for late := range most + 1 {
			s, err := slack.After(a.x, a.r, a.s, at, late)
			if err != api.OK {
				t.Errorf("%s: Slack = %v, but After %d, %d returns the error %d", a, slacks, at, late, err)
			}
			a.wantLater(t, s, at, late)
		}
		if s, err := slack.After(a.x, a.r, a.s, at, most+1); err == api.OK {
			t.Errorf("%s: Slack = %v, but After %d, %d = %s", a, slacks, at, most+1, sample.Show(s))
		}
	}
}

// wantLater expects what P19.3 says, and what is the same before the delay.
func (a trip) wantLater(t *testing.T, s api.Sheet, at, late int) {
	t.Helper()
	ok := late > 0 || sample.Show(s) == sample.Show(a.s)
	ok = ok && s.Rest == a.s.Rest && s.Depart == a.s.Depart && s.Miles == a.s.Miles && len(s.Times) == len(a.s.Times) && slices.Equal(s.Times[:at], a.s.Times[:at])
	ok = ok && arrivalsOf(s)[at] == arrivalsOf(a.s)[at]+late && s.End >= a.s.End
	for i, one := range a.s.Times {
		got := s.Times[i]
		ok = ok && got.Arrive >= one.Arrive && got.Begin >= one.Begin && got.Depart >= one.Depart && got.Rest == one.Rest
	}
	if !ok {
		t.Errorf("%s: After %d, %d = %s", a, at, late, sample.Show(s))
	}
}
