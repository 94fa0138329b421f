package split_test

import (
	"math/rand"
	"slices"
	"testing"

	"lorry/api"
	"lorry/split"
)

// shares is the list of the shares of a route.
type shares = []split.Share

// divided returns an instance whose parts are 0, 1 and 2 of the order a, 3 of b, and 4 and 5 of c.
func divided() api.Instance { return town(3, 1, 2) }

// both returns the visits of orders, each with a pickup and a delivery.
func both(orders ...int) api.Route {
	var r api.Route
	for _, drop := range []bool{false, true} {
		for _, number := range orders {
			r.Visits = append(r.Visits, api.Visit{Order: number, Drop: drop})
		}
	}
	return r
}

// P15.3
func TestMergeAddsTheLoadsOfParts(t *testing.T) {
	x := divided()
	wantMerged(t, x, planOf(visits(0)), shares{share(0, 3, 1)})
	wantMerged(t, x, planOf(visits(2)), shares{share(0, 2, 0)})
	wantMerged(t, x, planOf(visits(3)), shares{share(1, 7, 2)})
	wantMerged(t, x, planOf(visits(5)), shares{share(2, 3, 1)})
	wantMerged(t, x, planOf(visits(0, 2)), shares{share(0, 5, 1)})
	wantMerged(t, x, planOf(visits(0, 1, 2)), shares{share(0, 7, 2)})
	wantMerged(t, x, planOf(visits(0, 1, 2, 3, 4, 5)), shares{share(0, 7, 2), share(1, 7, 2), share(2, 7, 2)})
	wantMerged(t, x, planOf(visits(4, 1)), shares{share(0, 2, 1), share(2, 4, 1)})
}

// P15.3: ascending, in whichever order they are visited.
func TestMergeSortsTheShares(t *testing.T) {
	x := divided()
	for _, r := range []api.Route{visits(5, 3, 2, 1), visits(3, 1, 5, 2), visits(2, 5, 1, 3), visits(1, 2, 3, 5)} {
		wantMerged(t, x, planOf(r), shares{share(0, 4, 1), share(1, 7, 2), share(2, 3, 1)})
	}
}

// P15.3: route by route, with routes without visits, and without routes.
func TestMergeOfSeveralRoutes(t *testing.T) {
	x := divided()
	wantMerged(t, x, planOf())
	wantMerged(t, x, planOf(visits()), nil)
	wantMerged(t, x, planOf(visits(), visits(3), visits()), nil, shares{share(1, 7, 2)}, nil)
	wantMerged(t, x, planOf(visits(4, 0), visits(2, 5), visits(3, 1)), shares{share(0, 3, 1), share(2, 4, 1)}, shares{share(0, 2, 0), share(2, 3, 1)}, shares{share(0, 2, 1), share(1, 7, 2)})
	// Two routes with the same part have a share each.
	wantMerged(t, x, planOf(visits(0), visits(0, 1)), shares{share(0, 3, 1)}, shares{share(0, 5, 2)})
}

// P15.3: each part is counted once, whichever visits it has.
func TestMergeCountsEachPartOnce(t *testing.T) {
	x := divided()
	wantMerged(t, x, planOf(visits(0, 0)), shares{share(0, 3, 1)})
	wantMerged(t, x, planOf(visits(0, 1, 0, 1, 1)), shares{share(0, 5, 2)})
	wantMerged(t, x, planOf(both(3)), shares{share(1, 7, 2)})
	wantMerged(t, x, planOf(both(5, 3, 1)), shares{share(0, 2, 1), share(1, 7, 2), share(2, 3, 1)})
	picked := api.Route{Visits: []api.Visit{{Order: 2}}}
	wantMerged(t, x, planOf(picked), shares{share(0, 2, 0)})
}

// P15.3: also a load of zeros is that of a share, and cancelled orders have shares like others.
func TestMergeOfLoadsWithoutGoods(t *testing.T) {
	x := divided()
	x.Orders[0].Load, x.Orders[1].Load, x.Orders[2].Off = []int{1, 0}, []int{0, 0}, true
	wantMerged(t, x, planOf(visits(2, 3), visits(0, 4)), shares{share(0, 0, 0), share(1, 0, 0)}, shares{share(0, 1, 0), share(2, 4, 1)})
}

// P15.3: nothing but the visits matters.
func TestMergeLooksAtTheVisits(t *testing.T) {
	x := divided()
	p := planOf(visits(0, 3), visits(1))
	p.Routes[0].Type, p.Routes[0].Start, p.Routes[0].Rests = -5, 99, []bool{true, true}
	p.Unserved = []int{0, 0, -1, 77}
	wantMerged(t, x, p, shares{share(0, 3, 1), share(1, 7, 2)}, shares{share(0, 2, 1)})
}

// P15.3: an instance without an order that is divided, and one without orders.
func TestMergeOfWholeOrders(t *testing.T) {
	wantMerged(t, town(1, 1), planOf(visits(1), visits(1, 0)), shares{share(1, 7, 2)}, shares{share(0, 7, 2), share(1, 7, 2)})
	wantMerged(t, town(), planOf(visits(), visits()), nil, nil)
	wantNotMerged(t, town(), nil, planOf(visits(0)), api.ErrArg)
	wantNotMerged(t, town(), []int{0}, planOf(), api.ErrArg)
}

// P15.3: only the list that Expand returns is accepted as the origin.
func TestMergeRefusesOtherOrigins(t *testing.T) {
	x := divided()
	for _, origin := range [][]int{
		nil, {0}, {0, 0, 0, 1, 2}, {0, 0, 0, 1, 2, 2, 2}, {0, 0, 0, 1, 2, 2, 3}, {0, 0, 0, 0, 1, 2, 2},
		{0, 0, 1, 0, 2, 2}, {2, 2, 1, 0, 0, 0}, {0, 0, 0, 2, 1, 2}, {1, 1, 1, 2, 3, 3}, {0, 0, 1, 1, 2, 2}, {0, 1, 2}, {0, 1, 2, 3, 4, 5}, {-1, 0, 0, 1, 2, 2}, {0, 0, 0, 1, 2, 1 << 32},
	} {
		wantNotMerged(t, x, origin, planOf(), api.ErrArg)
		wantNotMerged(t, x, origin, planOf(visits(0, 5)), api.ErrArg)
		wantNotMerged(t, x, origin, planOf(visits(6)), api.ErrArg)
	}
	for i := range 6 {
		for _, number := range anyInts() {
			origin := []int{0, 0, 0, 1, 2, 2}
			if origin[i] != number {
				origin[i] = number
				wantNotMerged(t, x, origin, planOf(visits(3)), api.ErrArg)
			}
		}
	}
}

// P15.3: a part that does not exist, below 0 and above, wherever it is visited.
func TestMergeRefusesPartsThatDoNotExist(t *testing.T) {
	x := divided()
	_, origin := expanded(t, x)
	for _, number := range anyInts() {
		if number >= 0 && number < 6 {
			continue
		}
		for _, p := range []api.Plan{planOf(visits(number)), planOf(both(number)), planOf(visits(0, 1, number)), planOf(visits(number, 0)), planOf(visits(0), visits(), visits(3, number, 4), visits(5)), planOf(api.Route{Visits: []api.Visit{{Order: number}}})} {
			wantNotMerged(t, x, origin, p, api.ErrArg)
		}
	}
}

// P15.3: the errors of Expand come first.
func TestMergeReturnsTheErrorsOfExpand(t *testing.T) {
	wantNotExpanded(t, town(4, 4, 3), api.ErrSize)
	wantNotExpanded(t, named([]string{fifteen}, 2), api.ErrName)
	wantNotExpanded(t, named([]string{"a_1", "a"}, 1, 2), api.ErrTwice)
	x := town(4, 4, 1, 1)
	x.Apart = pairs{{0, 1}, {1, 2}}
	wantNotMerged(t, x, []int{0, 0, 0, 0, 1, 1, 1, 1, 2, 3}, planOf(visits(0)), api.ErrSize)
}

// P15.3: ten parts, long routes and many of them.
func TestMergeOfLargePlans(t *testing.T) {
	x := town(4, 4, 2)
	every := []int{9, 8, 7, 6, 5, 4, 3, 2, 1, 0}
	long := visits(slices.Repeat(every, 20000)...)
	want := shares{share(0, 7, 2), share(1, 7, 2), share(2, 7, 2)}
	wantMerged(t, x, planOf(long, visits(every...)), want, want)
	p, all := planOf(), [][]split.Share{}
	for i := range 20000 {
		p.Routes = append(p.Routes, visits(i%10))
	}
	for _, one := range modelMerge(x, planOf(p.Routes[:10]...)) {
		all = append(all, one)
	}
	wantMerged(t, x, p, slices.Repeat(all, 2000)...)
}

// drawnPlan returns routes with any visits of so many orders.
func drawnPlan(r *rand.Rand, orders int) api.Plan {
	var p api.Plan
	for range r.Intn(6) {
		var route api.Route
		for range r.Intn(8) {
			if orders > 0 {
				route.Visits = append(route.Visits, api.Visit{Order: r.Intn(orders), Drop: r.Intn(2) == 0})
			}
		}
		p.Routes = append(p.Routes, route)
	}
	return p
}

// P15.3: any plans of any valid instances.
func TestMergeFollowsTheModel(t *testing.T) {
	r := rand.New(rand.NewSource(1503))
	for range 5000 {
		x := drawnExpandable(r)
		y, origin := expanded(t, x)
		p := drawnPlan(r, len(y.Orders))
		wantMerged(t, x, p, modelMerge(x, p)...)
		if other := changed(r, origin); !slices.Equal(other, origin) {
			wantNotMerged(t, x, other, p, api.ErrArg)
		}
		p.Routes = append(p.Routes, visits(len(y.Orders)))
		wantNotMerged(t, x, origin, p, api.ErrArg)
	}
}
