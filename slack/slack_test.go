package slack_test

import (
	"fmt"
	"slices"
	"strings"
	"testing"

	"lorry/api"
	"lorry/internal/sample"
	"lorry/slack"
)

// P19.1, P19.2: without visits, only the end can be late. This is the second example of the chapter.
func TestSlackWithoutVisits(t *testing.T) {
	for _, c := range []struct{ last, drive, want int }{{10, 99, 0}, {11, 99, 1}, {90, 99, 80}, {90, 10, 0}, {90, 11, 1}, {90, 90, 80}, {90, 91, 80}, {4096, 4096, 4086}} {
		x := sample.Town("0>1 10", fmt.Sprintf("0>1 0-%d %d/4", c.last, c.drive), "- 1@0-90+0")
		a := along(t, x, "", "-", "0 10 0m")
		a.wantSlack(t, c.want)
		if c.last > 13 {
			a = along(t, x, "", "*", "4* 14 0m")
			a.wantSlack(t, min(c.last-14, c.drive-10))
		}
	}
	x := sample.Town("", "1>1 7-4096 4096/4", "")
	along(t, x, "", "-", "7 7 0m").wantSlack(t, 4089)
	x.Types[0].Open = 0
	along(t, x, "", "-", "0 0 0m").wantSlack(t, 4096)
	x.Types[0].Close = 0
	along(t, x, "", "-", "0 0 0m").wantSlack(t, 0)
}

// P19.1: a delay that violates a rule where a greater one does not. After a rest, the way back takes 5 ticks for departures up to 9, 14 at 10, 13 at 11, 12 at 12, and 11 from 13 on.
func TestSlackEndsBeforeTheFirstViolation(t *testing.T) {
	x := sample.Town("0>1 1, 1>0 0:5 9:14 10:24 13:24", "0>0 0-900 12/5", "- 1@0-900+0")
	a := along(t, x, "A", "-*", "0 1/1/6* 11 0m")
	a.wantSlack(t, 3, 7)
	a.wantAfter(t, 0, 3, "0 4/4/9* 14 0m")
	a.wantAfterError(t, 0, 4, api.ErrRest)
	a.wantAfterError(t, 0, 5, api.ErrRest)
	for late := 6; late <= 11; late++ {
		want := fmt.Sprintf("0 %d/%d/%d* %d 0m", 1+late, 1+late, 6+late, max(24, 17+late))
		a.wantAfter(t, 0, late, want)
	}
	a.wantAfterError(t, 0, 12, api.ErrRest)
	x.Types[0].Drive = 13
	along(t, x, "A", "-*", "0 1/1/6* 11 0m").wantSlack(t, 3, 8)
	x.Types[0].Drive = 14
	along(t, x, "A", "-*", "0 1/1/6* 11 0m").wantSlack(t, 13, 9)
}

// P19.1: a delay at one visit can leave out the arrivals at the next one that violate a rule, and be greater.
func TestSlackOfEarlierVisitsCanBeGreater(t *testing.T) {
	x := sample.Town("0>1 1, 1>2 0:1 4:5 5:8, 2>0 0:5 10:15 11:25 13:25", "0>0 0-900 12/5", "- 1@0-900+0, - 2@0-900+0")
	a := along(t, x, "AB", "--*", "0 1/1/1 2/2/7* 12 0m")
	a.wantSlack(t, 8, 3, 7)
	a.wantAfter(t, 0, 3, "0 4/4/4 5/5/10* 15 0m")
	a.wantAfter(t, 0, 4, "0 5/5/5 8/8/13* 25 0m")
	a.wantAfterError(t, 1, 4, api.ErrRest)
	a.wantAfterError(t, 1, 5, api.ErrRest)
	a.wantAfter(t, 1, 6, "0 1/1/1 8/8/13* 25 0m")
}

// P19.1, P19.2: each rule, at the visit itself and at later arrivals, is what limits the slack.
func TestSlackLimits(t *testing.T) {
	for _, c := range []struct {
		vehicle, rests string
		first, last    int
		want           []int
	}{
		{"0-900 900/5", "---", 900, 900, []int{860, 860, 860}},
		{"0-900 900/5", "---", 50, 900, []int{40, 860, 860}},
		{"0-900 900/5", "---", 900, 70, []int{50, 50, 860}},
		{"0-100 900/5", "---", 900, 900, []int{60, 60, 60}},
		{"0-900 100/5", "---", 900, 900, []int{60, 60, 60}},
		{"0-900 100/5", "-*-", 900, 900, []int{90, 70, 70}},
		{"0-900 100/5", "--*", 900, 900, []int{80, 80, 80}},
		{"0-900 30/5", "--*", 900, 900, []int{10, 10, 10}},
		{"0-900 30/5", "-*-", 900, 900, []int{20, 0, 0}},
		{"0-900 50/5", "-*-", 900, 65, []int{40, 20, 20}},
		{"0-900 50/5", "-*-", 900, 40, []int{15, 15, 20}},
		{"0-900 40/5", "---", 900, 900, []int{0, 0, 0}},
		{"0-40 900/5", "---", 900, 900, []int{0, 0, 0}},
		{"0-900 900/5", "---", 10, 20, []int{0, 0, 860}},
		{"0-900 900/5", "---", 900, 20, []int{0, 0, 860}},
		{"0-900 900/5", "---", 10, 900, []int{0, 860, 860}},
	} {
		x := sample.Town("0>1 10, 1>2 10, 2>0 20", "0>0 "+c.vehicle, fmt.Sprintf("- 1@0-%d+0, - 2@0-%d+0", c.first, c.last))
		want := map[string]string{"---": "0 10/10/10 20/20/20 40 0m", "-*-": "0 10/10/15* 25/25/25 45 0m", "--*": "0 10/10/10 20/20/25* 45 0m"}[c.rests]
		along(t, x, "AB", c.rests, want).wantSlack(t, c.want...)
	}
}

// shuttle is a route with 20 visits, 10 ticks apart from each other, with a rest after the tenth one if there is a star.
func shuttle(t *testing.T, vehicle, star string) trip {
	x := sample.Town("0>1 10, 1>2 10, 2>1 10, 2>0 10", "0>0 "+vehicle, strings.TrimSuffix(strings.Repeat("1@0-900+0 2@0-900+0, ", 10), ", "))
	var want strings.Builder
	want.WriteString("0")
	for at, arrive := range shuttleArrivals(star)[:20] {
		if star != "" && at == 9 {
			fmt.Fprintf(&want, " 100/100/107*")
			continue
		}
		fmt.Fprintf(&want, " %d/%d/%d", arrive, arrive, arrive)
	}
	fmt.Fprintf(&want, " %d 0m", shuttleArrivals(star)[20])
	rests := strings.Repeat("-", 21)
	if star != "" {
		rests = rests[:10] + "*" + rests[11:]
	}
	return along(t, x, "aAbBcCdDeEfFgGhHiIjJ", rests, want.String())
}

func shuttleArrivals(star string) []int {
	l := make([]int, 21)
	for i := range l {
		l[i] = 10 + 10*i
		if star != "" && i > 9 {
			l[i] += 7
		}
	}
	return l
}

// P19.1, P19.2: as many visits as there can be.
func TestSlackOfLongRoutes(t *testing.T) {
	same := func(n int) []int { return slices.Repeat([]int{n}, 21) }
	shuttle(t, "0-300 4096/0", "").wantSlack(t, same(90)...)
	shuttle(t, "0-210 4096/0", "").wantSlack(t, same(0)...)
	shuttle(t, "0-900 215/0", "").wantSlack(t, same(5)...)
	shuttle(t, "0-900 210/0", "").wantSlack(t, same(0)...)
	shuttle(t, "0-900 120/7", "*").wantSlack(t, append(slices.Repeat([]int{20}, 10), slices.Repeat([]int{10}, 11)...)...)
	shuttle(t, "0-222 120/7", "*").wantSlack(t, same(5)...)
	a := shuttle(t, "0-4000 4096/0", "")
	a.x.Orders[3].Drop.Close = 93
	a.wantSlack(t, slices.Concat(slices.Repeat([]int{13}, 8), slices.Repeat([]int{700}, 12), []int{3790})...)
	a.wantAfterError(t, 0, 14, api.ErrWindow)
	a.wantAfterError(t, 7, 14, api.ErrWindow)
	a.wantAfterError(t, 8, 701, api.ErrWindow)
	a.wantAfterError(t, 20, 3791, api.ErrClose)
}

// P19.1, P19.2: what plays a part are the stop of the visit, the type and the profile of the route, its Start and its Rests.
func TestSlackOfOtherRoutes(t *testing.T) {
	x := sample.Town("0>1 10, 1>0 10, 0>1 20 p3, 1>0 30 p3", "0>0 0-100 99/1, 0>0 5-200 99/1 p3", "1@0-40+1 1@50-70+2, 1@0-80+0 -")
	for _, c := range []struct {
		number, start      int
		visits, rests, all string
		want               []int
	}{
		{0, 0, "a", "--", "0 10/10/11 21 0m", []int{30, 79}},
		{0, 0, "A", "--", "0 10/50/52 62 0m", []int{60, 38}},
		{0, 0, "b", "--", "0 10/10/10 20 0m", []int{70, 79}},
		{0, 9, "b", "--", "9 19/19/19 29 0m", []int{61, 71}},
		{0, 9, "b", "*-", "10* 20/20/20 30 0m", []int{60, 70}},
		{1, 0, "b", "--", "5 25/25/25 55 0m", []int{49, 49}},
		{1, 4, "b", "--", "5 25/25/25 55 0m", []int{49, 49}},
		{1, 6, "b", "-*", "6 26/26/27* 57 0m", []int{54, 69}},
		{1, 6, "a", "-*", "6 26/26/28* 58 0m", []int{14, 69}},
		{1, 6, "A", "--", "6 26/50/52 82 0m", []int{44, 49}},
	} {
		r := sample.Route(c.number, c.start, c.visits)
		a := trip{x, r, sheet(t, x, r, c.rests)}
		if sample.Show(a.s) != c.all {
			t.Errorf("%s; want %s", a, c.all)
		}
		for count := range len(c.rests) + 1 {
			a.r.Rests = sample.Rests(c.rests[:count])
			a.wantSlack(t, c.want...)
		}
	}
}

// P19.1: slacks above MaxTime, which an instance has only if instance.Check refuses its shift or its window.
func TestSlackAboveMaxTime(t *testing.T) {
	x := sample.Town("0>1 10, 1>0 10", "0>0 0-9020 9000/5", "- 1@0-8000+0")
	r := sample.Route(0, 0, "A")
	for rests, want := range map[string][]int{"--": {7990, 8980}, "-*": {7990, 8990}} {
		a := trip{x, r, sheet(t, x, r, rests)}
		got, err := slack.Slack(a.x, a.r, a.s)
		if err != api.OK || !slices.Equal(got, want) {
			t.Errorf("%s: Slack = %v, %d; want %v", a, got, err, want)
		}
		for at := range want {
			if _, err := slack.After(a.x, a.r, a.s, at, 4096); err != api.OK {
				t.Error(a, at, err)
			}
			a.wantAfterError(t, at, 4097, api.ErrArg)
		}
	}
}

// P19.2: Latest is found in the same way as Slack.
func TestLatest(t *testing.T) {
	a := shuttle(t, "0-900 120/7", "*")
	l, err := slack.Latest(a.x, a.r, a.s)
	want := []int{30, 40, 50, 60, 70, 80, 90, 100, 110, 120, 127, 137, 147, 157, 167, 177, 187, 197, 207, 217, 227}
	if err != api.OK || !slices.Equal(l, want) {
		t.Errorf("Latest = %v, %d", l, err)
	}
	a = single(t)
	if l, err = slack.Latest(a.x, a.r, a.s); err != api.OK || !slices.Equal(l, []int{50, 4096}) {
		t.Errorf("Latest = %v, %d", l, err)
	}
}
