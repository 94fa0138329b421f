package carry_test

import (
	"math/rand"
	"slices"
	"strings"
	"testing"

	"lorry/api"
	"lorry/sequence"
)

// wantConsequences looks at the results alone.
func wantConsequences(t *testing.T, x api.Instance, r api.Route) {
	t.Helper()
	a := answersOf(x, r)
	if a.Errors[0] != api.OK {
		return
	}
	kept := make([]int, len(x.Types[0].Cap))
	for i, v := range r.Visits {
		o, step := x.Orders[v.Order], make([]int, len(kept))
		for d, n := range o.Load {
			step[d] = a.Loads[i+1][d] - a.Loads[i][d]
			if v.Drop {
				step[d] = -step[d]
			}
			if o.Drop.Place == -1 {
				kept[d] += n
			}
		}
		if !slices.Equal(step, o.Load) {
			t.Errorf("%s: %v follows %v", about(x, r), a.Loads[i+1], a.Loads[i])
		}
	}
	if last := a.Loads[len(a.Loads)-1]; len(a.Loads) != len(r.Visits)+1 || !slices.Equal(last, kept) {
		t.Errorf("%s: the last one of %d loads is %v; want %v", about(x, r), len(a.Loads), last, kept)
	}
	if 0 <= r.Type && r.Type < len(x.Types) {
		within := areWithin([][]int{a.Most}, x.Types[r.Type].Cap)
		if (a.Errors[1] == api.OK) != within || (a.Errors[3] == api.OK) != within {
			t.Errorf("%s: Most is %v, and Fits %d, Room %d", about(x, r), a.Most, a.Errors[1], a.Errors[3])
		}
	}
}

// P17.5: routes that keep all, some or none of their orders, and that fit just so or just not.
func TestConsequences(t *testing.T) {
	for _, capacities := range []string{"9 9, 8 9, 9 8", "3 3, 4 3, 3 4", "0 0, 1000 1000"} {
		x := town(capacities, "b 4 2", "p 2 4", "d 3 3", "p 7 0", "d 0 0", "b 1000 0")
		for _, s := range []string{"aA", "b", "C", "db", "EC", "CaAb", "aACb", "abAC", "dEaCbA", "EdbaCA", "faFA", "bECfdF"} {
			for number := range x.Types {
				wantModel(t, x, route(number, s))
				wantConsequences(t, x, route(number, s))
			}
		}
	}
}

// P17.1 to P17.5: all sequences of all kinds of 3 orders, with and without pairs, and of each type.
func TestSmallInstances(t *testing.T) {
	for code := range 27 * 4 {
		kinds := [3]string{"bpd"[code%3 : code%3+1], "bpd"[code/3%3 : code/3%3+1], "bpd"[code/9%3 : code/9%3+1]}
		x := town("6 3, 4 4, 3 6, 7 7", kinds[0]+" 4 2", kinds[1]+" 2 1", kinds[2]+" 1 4")
		x.Orders[1].Off = code/27%2 == 1
		if code/54 == 1 {
			x.Before = pairs("ac")
		}
		wantValid(t, x)
		for set := 1; set < 8; set++ {
			l, err := sequence.All(x, set)
			if err != api.OK {
				t.Fatal(set, err)
			}
			for _, one := range l {
				for number := -1; number <= len(x.Types); number++ {
					r := api.Route{Type: number, Visits: one}
					wantModel(t, x, r)
					wantConsequences(t, x, r)
				}
			}
		}
	}
}

// P17.1 to P17.4: all lists of up to 4 visits, most of which are refused.
func TestEachList(t *testing.T) {
	x := town("5 1, 2 5", "b 3 1", "d 2 0", "p 1 2")
	x.Before = pairs("ab")
	y := town("4 4, 1 1", "b 1 1", "p 2 3", "b 3 2")
	y.Apart, y.Orders[2].Off = pairs("ba"), true
	letters := "aAbBcCd"
	lists := []string{""}
	for len(lists) > 0 {
		s := lists[0]
		lists = lists[1:]
		for number := -1; number <= 2; number++ {
			wantModel(t, x, route(number, s))
			wantModel(t, y, route(number, s))
		}
		if len(s) < 4 {
			for _, letter := range strings.Split(letters, "") {
				lists = append(lists, s+letter)
			}
		}
	}
}

// P17.1 to P17.5: instances with up to MaxOrders orders, routes that are accepted or not, and capacities around the loads.
func TestDrawnInstances(t *testing.T) {
	r := rand.New(rand.NewSource(1701))
	errors := make(map[api.Errno]int)
	for range 40000 {
		x := drawn(r, 1+r.Intn(api.MaxOrders))
		one := drawnRoute(r, x)
		if r.Intn(4) == 0 {
			one.Visits = damage(r, x, one.Visits)
		}
		switch r.Intn(4) {
		case 0:
			tighten(r, &x, one, 0)
		case 1:
			tighten(r, &x, one, 0, 1, 5)
		case 2:
			tighten(r, &x, one, 0, 0, 0, 0, -1)
		}
		wantModel(t, x, one)
		wantConsequences(t, x, one)
		errors[answersOf(x, one).Errors[1]]++
	}
	for _, err := range []api.Errno{api.OK, api.ErrArg, api.ErrState, api.ErrTwice, api.ErrPair, api.ErrApart, api.ErrBefore, api.ErrLoad} {
		if errors[err] < 50 {
			t.Errorf("the error %d occurs %d times", err, errors[err])
		}
	}
	r = rand.New(rand.NewSource(1702))
	for range 200 {
		wantValid(t, drawn(r, 1+r.Intn(api.MaxOrders)))
	}
}
