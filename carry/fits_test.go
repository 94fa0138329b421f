package carry_test

import (
	"fmt"
	"testing"

	"lorry/api"
)

// P17.2: the example of the chapter.
func TestOneBeforeTheOther(t *testing.T) {
	x := town("10", "b 6", "b 5")
	wantFits(t, x, api.OK, "aAbB", "bBaA")
	wantFits(t, x, api.ErrLoad, "abAB", "abBA", "baAB", "baBA")
}

// P17.2: a load that is equal to the capacity, and one more.
func TestFitsHasItsEdge(t *testing.T) {
	for _, n := range []int{0, 1, 2, 500, 999, 1000} {
		for kind, s := range map[string]string{"b": "aA", "p": "a", "d": "A"} {
			for capacity := max(0, n-2); capacity <= min(n+2, api.MaxLoad); capacity++ {
				want := api.OK
				if n > capacity {
					want = api.ErrLoad
				}
				wantFits(t, town(fmt.Sprint(capacity), fmt.Sprint(kind, " ", n)), want, s)
			}
		}
	}
}

// P17.2: at the beginning, in the middle, and at the end of the route.
func TestFitsAllAlongTheRoute(t *testing.T) {
	first := []string{"b 1", "p 2", "d 7", "d 1"}
	wantFits(t, town("8", first...), api.OK, "DCaAb", "CDbaA", "CDb", "DC")
	wantFits(t, town("7", first...), api.ErrLoad, "DCaAb", "CDbaA", "CDb", "DC")
	middle := []string{"b 6", "b 2", "p 2", "d 7"}
	wantFits(t, town("8", middle...), api.OK, "DabAcB", "DbaABc", "DacA", "DabBA")
	wantFits(t, town("7", middle...), api.ErrLoad, "DabAcB", "DbaABc", "DacA", "DabBA")
	last := []string{"b 1", "p 2", "d 7", "p 6"}
	wantFits(t, town("8", last...), api.OK, "CaAbd", "aACdb", "Cbd", "db")
	wantFits(t, town("7", last...), api.ErrLoad, "CaAbd", "aACdb", "Cbd", "db")
}

// P17.2: one more in a single dimension, wherever it is.
func TestFitsInEachDimension(t *testing.T) {
	for dims := 1; dims <= api.MaxDims; dims++ {
		full := "5 6 7"[:2*dims-1]
		for _, kind := range []string{"b", "p", "d"} {
			s := map[string]string{"b": "aA", "p": "a", "d": "A"}[kind]
			wantFits(t, town(full, kind+" "+full), api.OK, s)
			for d := range dims {
				more, less := load(full), load(full)
				more[d]++
				less[d]--
				wantFits(t, town(full, kind+" "+show(more)), api.ErrLoad, s)
				wantFits(t, town(show(less), kind+" "+full), api.ErrLoad, s)
				wantFits(t, town(show(more), kind+" "+full), api.OK, s)
				wantFits(t, town(full, kind+" "+show(less)), api.OK, s)
			}
		}
	}
}

// P17.2: dimensions whose greatest loads are at the beginning, in the middle, and at the end.
func TestFitsWhereEachDimensionIsGreatest(t *testing.T) {
	orders := []string{"b 1 8 1", "p 1 1 8", "d 8 1 1"}
	for capacity, want := range map[string]api.Errno{"8 8 8": api.OK, "7 8 8": api.ErrLoad, "8 7 8": api.ErrLoad, "8 8 7": api.ErrLoad, "1000 1000 7": api.ErrLoad, "7 1000 1000": api.ErrLoad, "1000 7 1000": api.ErrLoad} {
		wantFits(t, town(capacity, orders...), want, "CaAb")
	}
}

// P17.2: loads and capacities of 0, and the greatest ones.
func TestFitsNothing(t *testing.T) {
	wantFits(t, town("0 0", "b 0 0", "p 0 0", "d 0 0"), api.OK, "CabA", "aA", "b", "C")
	wantFits(t, town("0 5", "b 0 5", "p 0 0", "d 0 0"), api.OK, "CabA", "aA")
	wantFits(t, town("0 5", "b 1 5", "p 0 0", "d 0 0"), api.ErrLoad, "CabA", "aA")
	wantFits(t, town("1000", "b 1000", "p 1000", "d 1000"), api.OK, "CaAb", "aA", "C", "b")
	wantFits(t, town("1000", "b 1000", "p 1000", "d 1000"), api.ErrLoad, "aACb", "CbaA", "bC")
	wantFits(t, town("1000", "b 1000", "p 1", "d 0"), api.ErrLoad, "CabA", "CbaA")
}

// P17.2: the capacity of the type of the route counts.
func TestFitsTheType(t *testing.T) {
	x := town("3 3, 3 5, 5 3, 5 5, 4 4, 0 0", "b 4 4", "p 5 3", "d 0 5")
	for s, want := range map[string]string{"aA": "---oo-", "b": "--oo--", "C": "-o-o--", "CaAb": "---o--", "bCaA": "------", "Cb": "---o--"} {
		for number, fits := range want {
			err := api.ErrLoad
			if fits == 'o' {
				err = api.OK
			}
			wantFitsType(t, x, route(number, s), err)
		}
	}
}

// P17.2, P17.4: the type comes before the visits, and these before the load.
func TestErrorsOfTypesAndVisits(t *testing.T) {
	x, routes := refused()
	x.Types = town("0, 1, 9", "b 1").Types
	wantValid(t, x)
	routes[api.OK] = []string{"bB", "D", "bBaA", "Dc", "gG"}
	for err, l := range routes {
		for _, s := range l {
			for _, number := range anyInts() {
				want := err
				switch {
				case number < 0 || number >= len(x.Types):
					want = api.ErrArg
				case number == 0 && err == api.OK:
					want = api.ErrLoad
				}
				wantFitsType(t, x, route(number, s), want)
			}
		}
	}
}

// P17.2, P17.4: any number of types.
func TestErrorsOfTypesThatAreMissing(t *testing.T) {
	for types, capacities := range []string{"5", "5, 5", "5, 5, 5", "5, 5, 5, 5", "5, 5, 5, 5, 5", "5, 5, 5, 5, 5, 5"} {
		x := town(capacities, "b 5", "b 6")
		for number := -3; number < 10; number++ {
			exists := 0 <= number && number <= types
			for s, err := range map[string]api.Errno{"aA": api.OK, "bB": api.ErrLoad, "Aa": api.ErrPair, "aa": api.ErrTwice, "": api.ErrArg} {
				if !exists {
					err = api.ErrArg
				}
				wantFitsType(t, x, route(number, s), err)
			}
		}
	}
}
