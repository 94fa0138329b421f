package price_test

import (
	"math"
	"math/rand"
	"slices"
	"testing"

	"lorry/api"
	"lorry/drive"
	"lorry/internal/sample"
)

// P20.1: the example of the chapter, with and without an Open.
func TestTheExample(t *testing.T) {
	for _, open := range []int{0, 1, 20, 1000} {
		x := rated(100, 2, 1, open)
		wantValid(t, x)
		wantRoute(t, x, api.Route{Type: 1}, api.Sheet{End: open + 130, Miles: 30}, score(290, 0, 0, 4))
	}
}

// P20.1: a route as package drive schedules it; it waits until 100, and ends at 116.
func TestRouteOfASchedule(t *testing.T) {
	x := town([2]int{-1, -1}, [2]int{0, 1}, [2]int{2, 2})
	for i := range x.Orders {
		x.Orders[i].Pick.Open = 100
	}
	for i := range x.Types {
		v := &x.Types[i]
		v.Fixed, v.PerMile, v.PerTick = 1000*(i+1), 10*(i+1), i+1
	}
	wantValid(t, x)
	for number, want := range []api.Score{score(1000+110+116, 1, 2, 1), score(2000+220+212, 2, 1, 1), score(3000+330+288, 1, 1, 1)} {
		r := sample.Route(number, 0, "abcABC")
		s, err := drive.Best(x, r)
		if err != api.OK || s.Miles != 11 || s.End != 116 {
			t.Errorf("%s, %d", sample.Show(s), err)
		}
		wantRoute(t, x, r, s, want)
	}
}

// P20.1: each of the costs alone, all of them, and none.
func TestRouteAddsCosts(t *testing.T) {
	for _, c := range []struct{ fixed, perMile, perTick, miles, working, want int }{
		{0, 0, 0, 0, 0, 0}, {0, 0, 0, 30, 60, 0}, {0, 0, 0, 10000, 4000, 0},
		{7, 0, 0, 0, 0, 7}, {7, 0, 0, 30, 60, 7}, {100000, 0, 0, 30, 60, 100000},
		{0, 5, 0, 0, 0, 0}, {0, 5, 0, 0, 60, 0}, {0, 5, 0, 1, 60, 5}, {0, 5, 0, 30, 60, 150}, {0, 5, 0, 30, 0, 150}, {0, 1, 0, 10000, 60, 10000}, {0, 100, 0, 210000, 60, 21000000},
		{0, 0, 3, 0, 0, 0}, {0, 0, 3, 30, 0, 0}, {0, 0, 3, 30, 1, 3}, {0, 0, 3, 30, 60, 180}, {0, 0, 3, 0, 60, 180}, {0, 0, 100, 30, 4000, 400000},
		{7, 5, 0, 30, 60, 157}, {7, 0, 3, 30, 60, 187}, {0, 5, 3, 30, 60, 330}, {7, 5, 3, 30, 60, 337}, {7, 5, 3, 0, 60, 187}, {7, 5, 3, 30, 0, 157}, {7, 5, 3, 0, 0, 7},
		{1, 1, 1, 1, 1, 3}, {100000, 100, 100, 210000, 4000, 21500000},
	} {
		for _, open := range []int{0, 1, 50, 96} {
			x := rated(c.fixed, c.perMile, c.perTick, open)
			wantValid(t, x)
			work := c.working / 64 * (c.working / 64)
			wantRoute(t, x, api.Route{Type: 1}, api.Sheet{End: open + c.working, Miles: c.miles}, score(c.want, 0, 0, work))
		}
	}
}

// P20.1: of the route's type alone; the End and the Miles have no meaning for the others.
func TestRouteHasTheCostsOfItsType(t *testing.T) {
	for i, want := range []api.Score{score(1000+200+600, 0, 0, 81), score(3000+400+2*590, 0, 0, 81), score(5000+600+3*580, 0, 0, 81)} {
		x := town()
		for k := range x.Types {
			v := &x.Types[k]
			v.Fixed, v.PerMile, v.PerTick = 1000*(2*k+1), 2*(k+1), k+1
		}
		wantValid(t, x)
		s := api.Sheet{End: 600, Miles: 100}
		wantRoute(t, x, api.Route{Type: i}, s, want)
		one := api.Instance{Types: x.Types[i : i+1]}
		wantRoute(t, one, api.Route{}, s, want)
		for k := range x.Types {
			if k != i {
				x.Types[k] = api.Type{Open: 77, Fixed: -1, PerMile: -1, PerTick: -1}
			}
		}
		wantRoute(t, x, api.Route{Type: i}, s, want)
	}
}

// P20.1: the quotient is rounded down before it is squared.
func TestRouteSquaresWorkingTimes(t *testing.T) {
	for working, want := range map[int]int{
		0: 0, 1: 0, 31: 0, 32: 0, 63: 0, 64: 1, 65: 1, 90: 1, 91: 1, 96: 1, 127: 1, 128: 4, 129: 4, 191: 4, 192: 9, 511: 49, 512: 64, 1000: 225, 4031: 3844, 4032: 3969, 4095: 3969, 4096: 4096, 4097: 4096,
		64 * 255: 65025, 64*256 - 1: 65025, 64 * 256: 65536, 1 << 30: 1 << 48,
	} {
		for _, open := range []int{0, 1, 63, 64, 4096, -64, -1000} {
			wantRoute(t, rated(0, 0, 0, open), api.Route{Type: 1}, api.Sheet{End: open + working}, score(0, 0, 0, want))
			wantRoute(t, rated(9, 0, 1, open), api.Route{Type: 1}, api.Sheet{End: open + working}, score(9+working, 0, 0, want))
		}
	}
}

// P20.1: all shifts.
func TestRouteOfAllWorkingTimes(t *testing.T) {
	for working := range api.MaxTime + 1 {
		for _, open := range []int{0, 17} {
			x, r, s := rated(3, 5, 7, open), api.Route{Type: 1}, api.Sheet{End: open + working, Miles: working % 11}
			wantRoute(t, x, r, s, scoreOf(x, r, s))
		}
	}
}

// P20.1: what an order was assigned to, what served it last, and both.
func TestRouteCountsChanges(t *testing.T) {
	for _, c := range []struct {
		now, last int
		want      [3][2]int // Moved and Other for each type
	}{
		{-1, -1, [3][2]int{{0, 0}, {0, 0}, {0, 0}}},
		{0, -1, [3][2]int{{0, 0}, {1, 0}, {1, 0}}},
		{1, -1, [3][2]int{{1, 0}, {0, 0}, {1, 0}}},
		{2, -1, [3][2]int{{1, 0}, {1, 0}, {0, 0}}},
		{-1, 0, [3][2]int{{0, 0}, {0, 1}, {0, 1}}},
		{-1, 1, [3][2]int{{0, 1}, {0, 0}, {0, 1}}},
		{-1, 2, [3][2]int{{0, 1}, {0, 1}, {0, 0}}},
		{0, 0, [3][2]int{{0, 0}, {1, 1}, {1, 1}}},
		{0, 1, [3][2]int{{0, 1}, {1, 0}, {1, 1}}},
		{1, 0, [3][2]int{{1, 0}, {0, 1}, {1, 1}}},
		{2, 0, [3][2]int{{1, 0}, {1, 1}, {0, 1}}},
		{2, 2, [3][2]int{{1, 1}, {1, 1}, {0, 0}}},
	} {
		x := town([2]int{c.now, c.last})
		wantValid(t, x)
		for number, want := range c.want {
			s := api.Sheet{End: x.Types[number].Open}
			for _, visits := range []string{"a", "A", "aA", "Aa", "aa", "AA", "aAaAaA"} {
				wantRoute(t, x, sample.Route(number, 0, visits), s, score(0, want[0], want[1], 0))
			}
			wantRoute(t, x, api.Route{Type: number}, s, api.Score{})
		}
	}
}

// P20.1: several orders, which count once each.
func TestRouteCountsEachOrderOnce(t *testing.T) {
	x := town([2]int{0, 1}, [2]int{1, 0}, [2]int{-1, 0}, [2]int{0, -1}, [2]int{0, 2}, [2]int{-1, -1}, [2]int{1, 1}, [2]int{2, 2})
	wantValid(t, x)
	for visits, want := range map[string][2]int{
		"": {0, 0}, "aA": {1, 0}, "bB": {0, 1}, "cC": {0, 1}, "dD": {1, 0}, "eE": {1, 1}, "fF": {0, 0}, "gG": {0, 0}, "hH": {1, 1},
		"abAB": {1, 1}, "baBA": {1, 1}, "adAD": {2, 0}, "bcCB": {0, 2}, "fgGF": {0, 0}, "ehHE": {2, 2}, "fFeEgG": {1, 1}, "fFgGeE": {1, 1}, "eEgG": {1, 1},
		"abcdefghABCDEFGH": {4, 4}, "hgfedcbaHGFEDCBA": {4, 4}, "abcdefgh": {4, 4}, "AhBgCfDe": {4, 4},
		"aaaa": {1, 0}, "AaAa": {1, 0}, "abab": {1, 1}, "aAbBaAbB": {1, 1}, "eeEEhhHHee": {2, 2}, "cdcdcdcd": {1, 1}, "hHgGhHgG": {1, 1},
	} {
		wantRoute(t, x, sample.Route(1, 0, visits), api.Sheet{End: 10}, score(0, want[0], want[1], 0))
	}
}

// P20.1: more orders than a set has, and visits that are repeated very often.
func TestRouteCountsManyOrders(t *testing.T) {
	x := api.Instance{Types: make([]api.Type, 2), Orders: make([]api.Order, 300)}
	var r api.Route
	for i := range x.Orders {
		x.Orders[i].Now, x.Orders[i].Last = i%2, i%3-1
		r.Visits = append(r.Visits, api.Visit{Order: i}, api.Visit{Order: i, Drop: true})
	}
	wantRoute(t, x, r, api.Sheet{}, score(0, 150, 100, 0))
	r.Visits = slices.Repeat(r.Visits, 50)
	wantRoute(t, x, r, api.Sheet{}, score(0, 150, 100, 0))
	r.Type = 1
	wantRoute(t, x, r, api.Sheet{}, score(0, 150, 100, 0))
	x.Orders[299].Now, x.Orders[63].Last, x.Orders[66].Last = 0, 0, 0
	wantRoute(t, x, r, api.Sheet{}, score(0, 151, 102, 0))
}

// P20.1: a type that the instance does not have.
func TestRouteOfNoType(t *testing.T) {
	x := town([2]int{0, 0}, [2]int{1, 1})
	for i := range x.Types {
		x.Types[i].Fixed, x.Types[i].PerMile, x.Types[i].PerTick = 7, 5, 3
	}
	s := api.Sheet{End: 600, Miles: 9}
	for _, n := range numbers(0, 3) {
		if n < 0 || n > 2 {
			wantRoute(t, x, sample.Route(n, 0, "aAbB"), s, api.Score{})
			wantRoute(t, x, sample.Route(n, 0, ""), s, api.Score{})
		}
		if n != 0 {
			wantRoute(t, api.Instance{Types: x.Types[:1], Orders: x.Orders}, sample.Route(n, 0, "aA"), s, api.Score{})
		}
		wantRoute(t, api.Instance{Orders: x.Orders}, sample.Route(n, 0, "aAbB"), s, api.Score{})
	}
	wantRoute(t, x, sample.Route(2, 0, "aAbB"), s, score(7+45+3*580, 2, 2, 81))
	wantRoute(t, x, sample.Route(0, 0, "aAbB"), s, score(7+45+3*600, 1, 1, 81))
}

// P20.1: visits of orders that the instance does not have, alone and among others.
func TestRouteDisregardsOtherOrders(t *testing.T) {
	x := town([2]int{0, 0}, [2]int{1, 0}, [2]int{0, 1})
	wantValid(t, x)
	for _, n := range numbers(0, 3) {
		if n >= 0 && n < 3 {
			continue
		}
		gone := []api.Visit{{Order: n}, {Order: n, Drop: true}}
		for k := range 3 {
			r := api.Route{Type: 1, Visits: slices.Repeat(gone[:k], 2)}
			wantRoute(t, x, r, api.Sheet{End: 10}, api.Score{})
			wantRoute(t, api.Instance{Types: x.Types}, r, api.Sheet{End: 10}, api.Score{})
			for at := range 5 {
				r.Visits = slices.Insert(sample.Visits("abAC"), at, gone...)
				wantRoute(t, x, r, api.Sheet{End: 74}, score(0, 2, 2, 1))
			}
		}
	}
}

// P20.1: the instance need not be valid: Now and Last can be any numbers, and so can the costs and the End.
func TestRouteOfInvalidInstances(t *testing.T) {
	for _, n := range numbers(0) {
		for number := range 3 {
			want := changes(n, number)
			s := api.Sheet{End: []int{0, 10, 20}[number]}
			wantRoute(t, town([2]int{n, -1}), sample.Route(number, 0, "aA"), s, score(0, want, 0, 0))
			wantRoute(t, town([2]int{-1, n}), sample.Route(number, 0, "aA"), s, score(0, 0, want, 0))
			wantRoute(t, town([2]int{n, n}), sample.Route(number, 0, "aA"), s, score(0, want, want, 0))
		}
		wantRoute(t, rated(n, 0, 0, 0), api.Route{Type: 1}, api.Sheet{End: 64, Miles: 9}, score(n, 0, 0, 1))
		wantRoute(t, rated(0, n, 0, 0), api.Route{Type: 1}, api.Sheet{End: 64, Miles: 1}, score(n, 0, 0, 1))
		wantRoute(t, rated(0, 0, n, 9), api.Route{Type: 1}, api.Sheet{End: 10, Miles: 1}, score(n, 0, 0, 0))
		if n > math.MinInt/2 && n < math.MaxInt/2 {
			wantRoute(t, rated(3, 0, 2, n), api.Route{Type: 1}, api.Sheet{End: n + 200, Miles: 9}, score(403, 0, 0, 9))
		}
	}
	wantRoute(t, rated(-5, -3, -2, 0), api.Route{Type: 1}, api.Sheet{End: 130, Miles: 7}, score(-5-21-260, 0, 0, 4))
	wantRoute(t, rated(0, 1, 0, 0), api.Route{Type: 1}, api.Sheet{Miles: math.MaxInt}, score(math.MaxInt, 0, 0, 0))
	wantRoute(t, api.Instance{Types: []api.Type{{}}, Orders: []api.Order{{Now: 3}, {Off: true, Last: 2}}}, sample.Route(0, 0, "abAB"), api.Sheet{}, score(0, 1, 1, 0))
}

// P20.1: the score is that of the model, for drawn instances.
func TestRouteOfDrawnInstances(t *testing.T) {
	r := rand.New(rand.NewSource(2001))
	seen := map[string]int{}
	for range 5000 {
		x, one, s := drawnTrip(r)
		wantValid(t, x)
		want := scoreOf(x, one, s)
		wantRoute(t, x, one, s, want)
		for name, ok := range map[string]bool{"Moved": want.Moved > 1, "Other": want.Other > 1, "Work": want.Work > 1, "times": len(s.Times) > 2, "Cost": want.Cost > 1000} {
			if ok {
				seen[name]++
			}
		}
	}
	for _, name := range []string{"Moved", "Other", "Work", "times", "Cost"} {
		if seen[name] < 500 {
			t.Errorf("%s: %d routes", name, seen[name])
		}
	}
}
