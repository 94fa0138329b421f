package slack_test

import (
	"slices"
	"testing"

	"lorry/api"
	"lorry/drive"
	"lorry/internal/sample"
)

// sheet returns the schedule of Run.
func sheet(t *testing.T, x api.Instance, r api.Route, rests string) api.Sheet {
	t.Helper()
	s, err := drive.Run(x, r, sample.Rests(rests))
	if err != api.OK {
		t.Fatalf("%s: Run with %s returns the error %d", sample.About(x, r), rests, err)
	}
	return s
}

// good is a trip whose arguments are all right.
func good(t *testing.T) trip {
	x := ring("0-90 30/5", "- 1@0-80+0, - 2@0-80+0, - 3@0-80+0")
	a := along(t, x, "ABC", "--*-", "0 10/10/10 20/20/25* 35/35/35 45 10m")
	a.wantSlack(t, 10, 10, 10, 10)
	return a
}

// P19.1, P19.2: routes that are not possible here, and wrong numbers of rests and times.
func TestErrorsOfRoutes(t *testing.T) {
	for _, number := range []int{-1, 1, 2, 1 << 40} {
		a := good(t)
		a.r.Type = number
		a.wantErrors(t, api.ErrArg)
	}
	for _, start := range []int{-1, 4097, 1 << 40} {
		a := good(t)
		a.r.Start = start
		a.wantErrors(t, api.ErrArg)
	}
	for _, visits := range []string{"aBC", "AbC", "ABc", "ABD", "ABd", "AB", "ABCA", ""} {
		a := good(t)
		a.r.Visits = sample.Visits(visits)
		a.wantErrors(t, api.ErrArg)
	}
	for count := range 30 {
		a := good(t)
		if count != 3 {
			a.s.Times = slices.Concat(a.s.Times, make([]api.Time, 30))[:count]
			a.wantErrors(t, api.ErrArg)
		}
		a = good(t)
		if a.r.Rests = make([]bool, count); count > 4 {
			a.wantErrors(t, api.ErrArg)
		}
	}
	a := shuttle(t, "0-900 900/0", "")
	a.r.Visits = append(a.r.Visits, a.r.Visits[19])
	a.s.Times = append(a.s.Times, a.s.Times[19])
	a.wantErrors(t, api.ErrArg)
}

// P19.1, P19.2: schedules that are not those of the route.
func TestErrorsOfSchedules(t *testing.T) {
	for _, fixed := range []string{"*", "-*", "---", "--**", "----"} {
		a := good(t)
		a.r.Rests = sample.Rests(fixed)
		a.wantErrors(t, api.ErrState)
	}
	for _, change := range []func(s *api.Sheet){
		func(s *api.Sheet) { s.Depart++ },
		func(s *api.Sheet) { s.End++ },
		func(s *api.Sheet) { s.End-- },
		func(s *api.Sheet) { s.Miles++ },
		func(s *api.Sheet) { s.Times[0].Arrive++ },
		func(s *api.Sheet) { s.Times[1].Begin++ },
		func(s *api.Sheet) { s.Times[2].Depart++ },
	} {
		a := good(t)
		change(&a.s)
		a.wantErrors(t, api.ErrState)
	}
	a := good(t)
	a.s.Rest = true
	a.wantErrors(t, api.ErrState)
	a = good(t)
	a.s.Times[1].Rest = false
	a.wantErrors(t, api.ErrRest)
	a = good(t)
	a.r.Start = 1
	a.wantErrors(t, api.ErrState)
}

// P19.1, P19.2: schedules that violate a rule already.
func TestErrorsOfRules(t *testing.T) {
	a := good(t)
	a.x.Net.Arcs[2].Profile = 1
	a.wantErrors(t, api.ErrArc)
	for at, last := range []int{9, 19, 34} {
		a = good(t)
		a.x.Orders[at].Drop.Close = last
		a.wantErrors(t, api.ErrWindow)
		a.x.Orders[at].Drop.Close++
		a.wantPromises(t)
	}
	a = good(t)
	a.x.Types[0].Close = 44
	a.wantErrors(t, api.ErrClose)
	a.x.Types[0].Close++
	a.wantSlack(t, 0, 0, 0, 0)
	a = good(t)
	a.x.Types[0].Drive = 19
	a.wantErrors(t, api.ErrRest)
	a.x.Types[0].Drive++
	a.wantSlack(t, 0, 0, 0, 0)
	// Of several ones, the first one.
	a.x.Orders[2].Drop.Close = 34
	a.wantErrors(t, api.ErrWindow)
	a.r.Rests = sample.Rests("-*")
	a.wantErrors(t, api.ErrState)
	a.r.Rests = sample.Rests("-----")
	a.wantErrors(t, api.ErrArg)
}
