package slack_test

import (
	"math/rand"
	"slices"
	"testing"

	"lorry/api"
	"lorry/drive"
	"lorry/internal/sample"
	"lorry/slack"
)

// drawnTrip returns a route with up to so many visits and a schedule of it, if it has one.
func drawnTrip(r *rand.Rand, visits int) trip {
	size := sample.OneOf(r, 4, 10, 30, 100)
	a := trip{x: sample.Draw(r, size, 1+r.Intn(4))}
	a.r = sample.DrawRoute(r, a.x, r.Intn(visits+1), size)
	if r.Intn(2) == 0 {
		sample.Tire(r, &a.x, a.r)
	}
	err := api.OK
	if a.s, err = drive.Best(a.x, a.r); err != api.OK || r.Intn(2) == 0 {
		rests := sample.DrawRests(r, len(a.r.Visits)+1)
		if s, err := drive.Run(a.x, a.r, rests); err == api.OK {
			a.s = s
		}
	}
	if len(a.s.Times) == len(a.r.Visits) && r.Intn(3) == 0 {
		for _, one := range append([]api.Time{{Rest: a.s.Rest}}, a.s.Times...)[:r.Intn(len(a.s.Times)+2)] {
			a.r.Rests = append(a.r.Rests, one.Rest)
		}
	}
	return a
}

// wantModel compares After with its model.
func (a trip) wantModel(t *testing.T, at, late int) api.Errno {
	t.Helper()
	got, e0 := slack.After(a.x, a.r, a.s, at, late)
	want, e1 := afterOf(a, at, late)
	if sample.Show(got) != sample.Show(want) || e0 != e1 || len(got.Times) != len(want.Times) {
		t.Errorf("%s: After %d, %d = %s, %d; want %s, %d", a, at, late, sample.Show(got), e0, sample.Show(want), e1)
	}
	return e0
}

// counts says how often something occurs.
type counts struct {
	errors, limits       map[api.Errno]int
	gaps, caughtUp, none int
}

// wantAll compares all functions with their models, and looks at the promises alone.
func (a trip) wantAll(t *testing.T, r *rand.Rand, n *counts) {
	t.Helper()
	want, limit, err := slackOf(a)
	got, e := slack.Slack(a.x, a.r, a.s)
	if !slices.Equal(got, want) || e != err {
		t.Errorf("%s: Slack = %v, %d; want %v, %d", a, got, e, want, err)
	}
	if err != api.OK {
		a.wantErrors(t, err)
		return
	}
	a.wantPromises(t)
	for at, most := range want {
		n.limits[limit[at]]++
		if most == 0 {
			n.none++
		}
		for _, late := range []int{-1 + r.Intn(2), r.Intn(1 + most), most + 2, most + 3 + r.Intn(3), most + 5 + r.Intn(9), r.Intn(4100)} {
			err := a.wantModel(t, at, late)
			if n.errors[err]++; err == api.OK && late > most {
				n.gaps++
			}
		}
		if s, _ := slack.After(a.x, a.r, a.s, at, most); most > 0 && at < len(a.s.Times) && s.End == a.s.End {
			n.caughtUp++
		}
	}
	a.wantModel(t, r.Intn(len(want)+3)-1, r.Intn(3))
}

// P19.1 to P19.3: all functions, for drawn instances.
func TestDrawnInstances(t *testing.T) {
	r := rand.New(rand.NewSource(1901))
	n := counts{errors: map[api.Errno]int{}, limits: map[api.Errno]int{}}
	for range 4000 {
		a := drawnTrip(r, 7)
		if r.Intn(20) == 0 {
			a.r = sample.Damage(r, a.x, a.r)
		}
		a.wantAll(t, r, &n)
	}
	for err, least := range map[api.Errno]int{api.OK: 4000, api.ErrArg: 400, api.ErrWindow: 1500, api.ErrClose: 1500, api.ErrRest: 1500} {
		if n.errors[err] < least {
			t.Errorf("After returns the error %d %d times", err, n.errors[err])
		}
	}
	for _, err := range []api.Errno{api.ErrWindow, api.ErrClose, api.ErrRest} {
		if n.limits[err] < 300 {
			t.Errorf("the error %d limits %d slacks", err, n.limits[err])
		}
	}
	if n.caughtUp < 500 || n.none < 500 {
		t.Errorf("%d delays are caught up, and %d slacks are 0", n.caughtUp, n.none)
	}
}

// jagged returns a travel function whose travel times rise at once and fall slowly, again and again.
func jagged(r *rand.Rand) []api.Point {
	l := []api.Point{{T: 0, A: r.Intn(5)}}
	for len(l) < api.MaxPoints-1 {
		p := l[len(l)-1]
		p.T, p.A = p.T+1, p.A+1+r.Intn(9)
		l = append(l, p)
		p.T += 1 + r.Intn(9)
		p.A = max(p.A+r.Intn(3), p.T)
		l = append(l, p)
	}
	return l
}

// P19.1: delays that violate a rule where greater ones do not, since the vehicle drives less after a rest.
func TestGaps(t *testing.T) {
	r := rand.New(rand.NewSource(1904))
	n := counts{errors: map[api.Errno]int{}, limits: map[api.Errno]int{}}
	for range 5000 {
		a := drawnTrip(r, 5)
		vehicle := &a.x.Types[a.r.Type]
		for i := range a.x.Net.Arcs {
			a.x.Net.Arcs[i].Travel, a.x.Net.Arcs[i].Slow = jagged(r), nil
		}
		vehicle.Drive, vehicle.Rest = api.MaxTime, r.Intn(5)
		a.r.Rests = nil
		s, err := drive.Run(a.x, a.r, sample.DrawRests(r, len(a.r.Visits)+1))
		since, _ := drive.Since(a.x, a.r, s)
		if err == api.OK {
			a.s, vehicle.Drive = s, max(1, slices.Max(since)+r.Intn(6))
		}
		a.wantAll(t, r, &n)
	}
	if n.gaps < 50 || n.limits[api.ErrRest] < 1000 {
		t.Errorf("%d delays above the slack are possible; %v", n.gaps, n.limits)
	}
}

// P19.1 to P19.3: each delay at each visit, one after the other.
func TestAllDelays(t *testing.T) {
	r := rand.New(rand.NewSource(1902))
	trips := 0
	for range 700 {
		a := drawnTrip(r, 5)
		if drive.Valid(a.x, a.r, a.s) != api.OK || a.s.End > 120 {
			continue
		}
		trips++
		for at, arrive := range arrivalsOf(a.s) {
			last := a.x.Types[a.r.Type].Close
			for late := -1; arrive+late <= last+2; late++ {
				a.wantModel(t, at, late)
			}
		}
	}
	if trips < 150 {
		t.Errorf("there are %d schedules", trips)
	}
}

// P19.1 to P19.3: routes with as many visits as there can be.
func TestLongRoutes(t *testing.T) {
	r := rand.New(rand.NewSource(1903))
	trips := map[int]int{}
	for range 2000 {
		a := drawnTrip(r, 20)
		want, _, err := slackOf(a)
		got, e := slack.Slack(a.x, a.r, a.s)
		if !slices.Equal(got, want) || e != err {
			t.Errorf("%s: Slack = %v, %d; want %v, %d", a, got, e, want, err)
		}
		if err == api.OK {
			trips[len(a.s.Times)]++
		}
	}
	for count := range 21 {
		if trips[count] < 5 {
			t.Errorf("there are %d schedules with %d visits", trips[count], count)
		}
	}
}
