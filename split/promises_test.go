package split_test

import (
	"math/rand"
	"slices"
	"testing"

	"lorry/api"
	"lorry/instance"
	"lorry/split"
)

// wantUnchanged checks that an instance is its own expanded one.
func wantUnchanged(t *testing.T, x api.Instance) {
	t.Helper()
	var each []int
	for i := range x.Orders {
		each = append(each, i)
	}
	wantExpanded(t, x, x, each)
	if y, _, err := split.Expand(x); err != api.OK || !instance.Same(x, y) {
		t.Errorf("Expand of %s = %s, %d", show(x), show(y), err)
	}
}

// wantWellExpanded checks that the expanded instance is valid, and that Expand returns it unchanged.
func wantWellExpanded(t *testing.T, x api.Instance) {
	t.Helper()
	wantValid(t, x)
	y, _ := expanded(t, x)
	wantValid(t, y)
	wantUnchanged(t, y)
}

// P15.5: instances with parts at the limits.
func TestExpandedInstancesAreValid(t *testing.T) {
	wantWellExpanded(t, town())
	wantWellExpanded(t, town(4, 4, 2))
	wantWellExpanded(t, named([]string{fourteen, fifteen, sixteen}, 4, 1, 1))
	wantWellExpanded(t, named([]string{"a_1", "a"}, 4, 1))
	x := town(4, 4, 1, 1)
	x.Apart, x.Before = pairs{{1, 0}}, pairs{{0, 1}}
	wantWellExpanded(t, x)
	x.Apart, x.Before = pairs{{0, 2}, {1, 2}, {0, 3}, {1, 3}}, pairs{{2, 0}, {0, 3}, {3, 2}, {2, 3}, {2, 1}}
	wantWellExpanded(t, x)
	for _, penalty := range []int{-1, 0, 1, 1000000} {
		for i := range x.Orders {
			x.Orders[i].Penalty = penalty
		}
		wantWellExpanded(t, x)
	}
}

// P15.5: any valid instances that have an expanded one.
func TestDrawnExpandedInstancesAreValid(t *testing.T) {
	r := rand.New(rand.NewSource(1505))
	for range 5000 {
		wantWellExpanded(t, drawnExpandable(r))
	}
}

// P15.5: without an order that is divided, whatever the names and the pairs are.
func TestInstancesWithoutDividedOrdersAreUnchanged(t *testing.T) {
	wantUnchanged(t, town())
	wantUnchanged(t, town(1, 1, 1, 1, 1, 1, 1, 1, 1, 1))
	wantUnchanged(t, named([]string{sixteen, "a", "a_1", "a_1_1"}, 1, 1, 1, 1))
	r := rand.New(rand.NewSource(1506))
	most := 0
	for range 5000 {
		x := drawn(r)
		for i := range x.Orders {
			x.Orders[i].Split = 1
		}
		wantUnchanged(t, x)
		most = max(most, len(x.Apart), len(x.Before))
	}
	if most != api.MaxPairs {
		t.Errorf("at most %d pairs", most)
	}
}

// drawnDistribution puts each order of an expanded instance on exactly one route, or into Unserved.
func drawnDistribution(r *rand.Rand, y api.Instance) api.Plan {
	p := api.Plan{Routes: make([]api.Route, 1+r.Intn(4))}
	for i, o := range y.Orders {
		if r.Intn(4) == 0 {
			p.Unserved = append(p.Unserved, i)
			continue
		}
		route := &p.Routes[r.Intn(len(p.Routes))]
		if o.Pick.Place >= 0 {
			route.Visits = append(route.Visits, api.Visit{Order: i})
		}
		if o.Drop.Place >= 0 {
			route.Visits = append(route.Visits, api.Visit{Order: i, Drop: true})
		}
		r.Shuffle(len(route.Visits), func(i, k int) { route.Visits[i], route.Visits[k] = route.Visits[k], route.Visits[i] })
	}
	return p
}

// originsOf returns the orders that the unserved orders of a plan are parts of.
func originsOf(origin []int, p api.Plan) []int {
	var l []int
	for _, number := range p.Unserved {
		l = append(l, origin[number])
	}
	return l
}

// P15.6: all ways to put the parts of two orders on two routes, or into Unserved.
func TestWholeAcceptsEachDistribution(t *testing.T) {
	x := town(4, 3)
	_, origin := expanded(t, x)
	for number := range 3 * 3 * 3 * 3 * 3 * 3 * 3 {
		p := planOf(visits(), visits())
		for i := range 7 {
			if at := number % 3; at < 2 {
				p.Routes[at].Visits = append(p.Routes[at].Visits, api.Visit{Order: i, Drop: true})
			} else {
				p.Unserved = append(p.Unserved, i)
			}
			number /= 3
		}
		wantWhole(t, x, merged(t, x, p), originsOf(origin, p), api.OK)
	}
}

// P15.6: any distributions of the orders of any expanded instances.
func TestWholeAcceptsDrawnDistributions(t *testing.T) {
	r := rand.New(rand.NewSource(1507))
	for range 5000 {
		x := drawnExpandable(r)
		y, origin := expanded(t, x)
		p := drawnDistribution(r, y)
		wantWhole(t, x, merged(t, x, p), originsOf(origin, p), api.OK)
	}
}

// P15.6: with a part that is missing, or on two routes, the shares are those of no such plan, and are refused.
func TestWholeRefusesOtherDistributions(t *testing.T) {
	x := town(4, 3, 1)
	x.Orders[0].Load, x.Orders[1].Load = []int{9, 4}, []int{5, 3}
	y, origin := expanded(t, x)
	for i := range y.Orders {
		rest := slices.Delete([]int{0, 1, 2, 3, 4, 5, 6, 7}, i, i+1)
		p := planOf(visits(rest...))
		wantWhole(t, x, merged(t, x, p), nil, api.ErrMissing)
		for number := range x.Orders {
			want := api.ErrMissing
			if number == origin[i] {
				want = api.OK
			}
			wantWhole(t, x, merged(t, x, p), []int{number}, want)
		}
		p.Routes = append(p.Routes, visits(i), visits(i))
		wantWhole(t, x, merged(t, x, p), nil, api.ErrLoad)
		wantWhole(t, x, merged(t, x, p), []int{0, 1, 2}, api.ErrLoad)
	}
}
