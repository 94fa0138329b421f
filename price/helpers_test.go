package price_test

import (
	"fmt"
	"math"
	"math/rand"
	"testing"

	"lorry/api"
	"lorry/drive"
	"lorry/instance"
	"lorry/internal/sample"
	"lorry/price"
)

// town returns a valid instance with three types, and an order with both places for each pair of types: that of Now, and that of Last.
func town(served ...[2]int) api.Instance {
	x := sample.Town("0>1 5m 10, 1>0 6m 10", "0>0 0-4096 90/5, 0>0 10-4000 90/5, 0>0 20-3000 90/5", "")
	for i, one := range served {
		o := sample.Town("", "", "1@0-900+1 0@0-900+1").Orders[0]
		o.Name, o.Now, o.Last = "o"+string(rune('0'+i)), one[0], one[1]
		x.Orders = append(x.Orders, o)
	}
	return x
}

// rated returns a valid instance with a type that has these costs, whose shift opens at a tick.
func rated(fixed, perMile, perTick, open int) api.Instance {
	x := town()
	v := &x.Types[1]
	v.Fixed, v.PerMile, v.PerTick, v.Open = fixed, perMile, perTick, open
	return x
}

// score returns a score with these numbers.
func score(cost, moved, other, work int) api.Score {
	return api.Score{Cost: cost, Moved: moved, Other: other, Work: work}
}

// field returns a number of a score: the Cost, then Moved, Other and Work.
func field(s *api.Score, part int) *int {
	return [4]*int{&s.Cost, &s.Moved, &s.Other, &s.Work}[part]
}

// greatest returns the greatest number that a part of a right score can have.
func greatest(part int) int {
	return [4]int{1073741824, 15, 15, 65535}[part]
}

// scores returns all scores with these numbers of each part.
func scores(numbers func(part int) []int) []api.Score {
	l := []api.Score{{}}
	for part := range 4 {
		var longer []api.Score
		for _, s := range l {
			for _, n := range numbers(part) {
				*field(&s, part) = n
				longer = append(longer, s)
			}
		}
		l = longer
	}
	return l
}

// edges returns right scores whose numbers are at their limits, next to them, and in between.
func edges() []api.Score {
	return scores(func(part int) []int {
		most := greatest(part)
		return []int{0, 1, most/2 + 1, most - 1, most}
	})
}

// isRight is the sentence of the section Definitions.
func isRight(s api.Score) bool {
	for part := range 4 {
		if n := *field(&s, part); n < 0 || n > greatest(part) {
			return false
		}
	}
	return true
}

// drawnScore returns a right score.
func drawnScore(r *rand.Rand) api.Score {
	var s api.Score
	for part := range 4 {
		most := greatest(part)
		*field(&s, part) = sample.OneOf(r, 0, 1, most, r.Intn(most+1), r.Intn(most+1), r.Intn(most+1))
	}
	return s
}

// anyScore returns a score with any numbers.
func anyScore(r *rand.Rand) api.Score {
	var s api.Score
	for part := range 4 {
		most := greatest(part)
		*field(&s, part) = sample.OneOf(r, append(sample.Ints(), -1, most, most+1, r.Intn(most+1), r.Intn(most+1))...)
	}
	return s
}

// numbers returns ints of all sizes, and those next to each of some others.
func numbers(near ...int) []int {
	l := append(sample.Ints(), math.MaxInt32, math.MinInt32)
	for _, n := range near {
		l = append(l, n-1, n, n+1)
	}
	return l
}

// brief returns a value as text, which is cut if it is long.
func brief(value any) string {
	s := fmt.Sprintf("%+v", value)
	if len(s) > 2000 {
		s = s[:2000] + ".."
	}
	return s
}

func wantValid(t *testing.T, x api.Instance) {
	t.Helper()
	if faults := instance.Check(x); len(faults) > 0 {
		t.Errorf("%s has %d faults; the first one is %+v", sample.About(x, api.Route{}), len(faults), faults[0])
	}
}

// wantRoute expects a score of a route with a schedule.
func wantRoute(t *testing.T, x api.Instance, r api.Route, s api.Sheet, want api.Score) {
	t.Helper()
	if got := price.Route(x, r, s); got != want {
		t.Errorf("%s, %s: Route of %s with %s = %+v; want %+v", brief(x.Types), brief(x.Orders), brief(r), brief(s), got, want)
	}
}

// wantUnserved expects a result of Unserved.
func wantUnserved(t *testing.T, x api.Instance, order int, want api.Score, wantErr api.Errno) {
	t.Helper()
	if got, err := price.Unserved(x, order); got != want || err != wantErr {
		t.Errorf("%s: Unserved %d = %+v, %d; want %+v, %d", brief(x.Orders), order, got, err, want, wantErr)
	}
}

// wantWeight expects a result of Weight.
func wantWeight(t *testing.T, s api.Score, want int, wantErr api.Errno) {
	t.Helper()
	if got, err := price.Weight(s); got != want || err != wantErr {
		t.Errorf("Weight of %+v = %d, %d; want %d, %d", s, got, err, want, wantErr)
	}
}

// wantSplit expects a result of Split.
func wantSplit(t *testing.T, n int, want api.Score, wantErr api.Errno) {
	t.Helper()
	if got, err := price.Split(n); got != want || err != wantErr {
		t.Errorf("Split of %d = %+v, %d; want %+v, %d", n, got, err, want, wantErr)
	}
}

// drawnTrip returns a valid instance with costs, a route of it, and a schedule, which is that of the route if it has one.
func drawnTrip(r *rand.Rand) (api.Instance, api.Route, api.Sheet) {
	size := sample.OneOf(r, 4, 30, 200)
	x := sample.Draw(r, size, 1+r.Intn(api.MaxOrders))
	sample.Rate(r, &x)
	one := sample.DrawRoute(r, x, r.Intn(21), size)
	s, err := drive.Best(x, one)
	if err != api.OK {
		s = api.Sheet{End: x.Types[one.Type].Open + r.Intn(api.MaxTime), Miles: r.Intn(210001)}
	}
	return x, one, s
}
