package instance_test

import (
	"math/rand"
	"slices"
	"strconv"
	"testing"

	"lorry/api"
	"lorry/fleet"
	"lorry/instance"
	"lorry/network"
	"lorry/order"
	"lorry/rules"
)

// P13.1
func TestCheckHasItsExample(t *testing.T) {
	wantFaults(t, api.Instance{Net: api.Network{Places: []string{"hub"}}}, fault(api.ErrSize, "types"))
}

// P13.1
func TestCheckAcceptsInstances(t *testing.T) {
	for orders := range 11 {
		wantFaults(t, town(orders))
	}
	r := rand.New(rand.NewSource(131))
	for range 500 {
		wantFaults(t, drawn(r))
	}
}

// P13.1: a fault of each part alone, with an At that is empty and with ones that are not.
func TestCheckPutsTheWordOfThePartBeforeAt(t *testing.T) {
	for _, c := range []struct {
		change func(x *api.Instance)
		want   []api.Fault
	}{
		{func(x *api.Instance) { x.Net.Places[2] = "2x" }, []api.Fault{fault(api.ErrName, "net place 2")}},
		{func(x *api.Instance) { x.Net.Places[2] = "hub" }, []api.Fault{fault(api.ErrTwice, "net place 2")}},
		{func(x *api.Instance) { x.Net.Arcs[1].Miles = -1 }, []api.Fault{fault(api.ErrArg, "net arc 1")}},
		{func(x *api.Instance) { x.Net.Arcs[2].Travel = nil }, []api.Fault{fault(api.ErrSize, "net arc 2")}},
		{func(x *api.Instance) { x.Net.Arcs = append(x.Net.Arcs, arc(1, 2)) }, []api.Fault{fault(api.ErrTwice, "net arc 3")}},
		{func(x *api.Instance) { x.Types = nil }, []api.Fault{fault(api.ErrSize, "types"), fault(api.ErrLoad, "orders 0"), fault(api.ErrLoad, "orders 1"), fault(api.ErrLoad, "orders 2"), fault(api.ErrLoad, "orders 3")}},
		{func(x *api.Instance) { x.Types[1].Count = 11 }, []api.Fault{fault(api.ErrCount, "types 1")}},
		{func(x *api.Instance) { x.Types[0].Profile, x.Types[0].Name = 8, "" }, []api.Fault{fault(api.ErrName, "types 0"), fault(api.ErrArg, "types 0")}},
		{func(x *api.Instance) { x.Orders[3].Skills = -1 }, []api.Fault{fault(api.ErrSkill, "orders 3")}},
		{func(x *api.Instance) { x.Orders = parcels(11) }, []api.Fault{fault(api.ErrSize, "orders")}},
		{func(x *api.Instance) { x.Apart[1] = [2]int{2, 2} }, []api.Fault{fault(api.ErrArg, "rules apart 1")}},
		{func(x *api.Instance) { x.Apart[2] = [2]int{0, 1} }, []api.Fault{fault(api.ErrTwice, "rules apart 2")}},
		{func(x *api.Instance) { x.Before[0] = [2]int{4, 0} }, []api.Fault{fault(api.ErrArg, "rules before 0")}},
	} {
		wantFaults(t, with(c.change), c.want...)
	}
}

// ways returns so many arcs with different ways between so many places.
func ways(places, count int) []api.Arc {
	var l []api.Arc
	for profile := range 8 {
		for from := range places {
			for to := range places {
				if from != to && len(l) < count {
					l = append(l, api.Arc{From: from, To: to, Profile: profile, Travel: []api.Point{{}}})
				}
			}
		}
	}
	return l
}

// P13.1: the faults of lists that are too long, and of elements behind the limits, at numbers of two digits and more.
func TestCheckLooksBehindTheLimits(t *testing.T) {
	x := crowd(60)
	for i := len(x.Net.Places); i < 25; i++ {
		x.Net.Places = append(x.Net.Places, "p"+strconv.Itoa(i))
	}
	x.Net.Arcs = ways(25, 1025)
	for i := range 5 {
		x.Types = append(x.Types, van("v"+strconv.Itoa(i)))
	}
	for i := range 17 {
		x.Apart, x.Before = append(x.Apart, [2]int{i, 59}), append(x.Before, [2]int{i, 59})
	}
	sizes := []api.Fault{fault(api.ErrSize, "net places"), fault(api.ErrSize, "net arcs"), fault(api.ErrSize, "types"), fault(api.ErrSize, "orders"), fault(api.ErrSize, "rules apart"), fault(api.ErrSize, "rules before")}
	wantFaults(t, x, sizes...)
	x.Net.Places[24], x.Net.Arcs[1024].Miles, x.Types[6].Rest, x.Orders[59].Penalty, x.Apart[16], x.Before[16][1] = "", -1, -1, -2, [2]int{59, 0}, 60
	wantFaults(t, x, sizes[0], fault(api.ErrName, "net place 24"), sizes[1], fault(api.ErrArg, "net arc 1024"), sizes[2], fault(api.ErrRest, "types 6"), sizes[3], fault(api.ErrArg, "orders 59"), sizes[4], fault(api.ErrTwice, "rules apart 16"), sizes[5], fault(api.ErrArg, "rules before 16"))
}

// P13.1, R3: faults of any of the parts at once, in their order.
func TestCheckReturnsTheFaultsOfAllPartsInOrder(t *testing.T) {
	wrong := []struct {
		change func(x *api.Instance)
		want   api.Fault
	}{
		{func(x *api.Instance) { x.Net.Places[1] = "hub" }, fault(api.ErrTwice, "net place 1")},
		{func(x *api.Instance) { x.Types[1].Open = 101 }, fault(api.ErrClose, "types 1")},
		{func(x *api.Instance) { x.Orders[2].Drop.Place = 3 }, fault(api.ErrPlace, "orders 2")},
		{func(x *api.Instance) { x.Apart[0] = [2]int{-1, 2} }, fault(api.ErrArg, "rules apart 0")},
		{func(x *api.Instance) { x.Before[1] = x.Before[0] }, fault(api.ErrTwice, "rules before 1")},
	}
	for set := range 1 << len(wrong) {
		x, want := town(4), []api.Fault(nil)
		for i, part := range wrong {
			if in(set, i) {
				part.change(&x)
				want = append(want, part.want)
			}
		}
		wantFaults(t, x, want...)
	}
}

// P13.1: the dimensions of loads are those of the first type.
func TestCheckComparesLoadsWithTheTypes(t *testing.T) {
	for first := range 6 {
		for load := range 6 {
			x := town(2)
			x.Types[0].Cap, x.Orders[1].Load = make([]int, first), make([]int, load)
			right := first >= 1 && first <= 3
			var want []api.Fault
			if !right {
				want = append(want, fault(api.ErrLoad, "types 0"))
			}
			if !right || first != 2 {
				want = append(want, fault(api.ErrLoad, "types 1"))
			}
			if first != 2 {
				want = append(want, fault(api.ErrLoad, "orders 0"))
			}
			if load != first {
				want = append(want, fault(api.ErrLoad, "orders 1"))
			}
			wantFaults(t, x, want...)
		}
	}
}

// P13.1: Last and Now are types of the instance, and places those of its network; pairs have its orders.
func TestCheckKnowsTheOtherParts(t *testing.T) {
	for number := -2; number < 8; number++ {
		for count := 1; count <= 6; count++ {
			x := town(1)
			x.Types = nil
			for i := range count {
				x.Types = append(x.Types, van("v"+strconv.Itoa(i)))
			}
			x.Orders[0].Last = number
			wantOneFault(t, x, number >= -1 && number < count, api.ErrArg, "orders 0")
			x.Orders[0].Last, x.Orders[0].Now = -1, number
			wantOneFault(t, x, number >= -1 && number < count, api.ErrArg, "orders 0")
		}
		x := town(1)
		x.Types[1].From = number
		wantOneFault(t, x, number >= 0 && number < 3, api.ErrPlace, "types 1")
		for count := range 11 {
			x := town(count)
			x.Apart, x.Before = pairs{{0, number}}, nil
			wantOneFault(t, x, number >= 1 && number < count, api.ErrArg, "rules apart 0")
			x.Apart, x.Before = nil, pairs{{number, 0}}
			wantOneFault(t, x, number >= 1 && number < count, api.ErrArg, "rules before 0")
		}
	}
}

// wantOneFault wants a fault unless the instance is right.
func wantOneFault(t *testing.T, x api.Instance, right bool, err api.Errno, at string) {
	t.Helper()
	if right {
		wantFaults(t, x)
	} else {
		wantFaults(t, x, fault(err, at))
	}
}

// faultsOf follows the chapter: the faults of each part, with its word before them.
func faultsOf(x api.Instance) []api.Fault {
	var l []api.Fault
	add := func(word string, faults []api.Fault) {
		for _, f := range faults {
			switch f.At {
			case "":
				l = append(l, fault(f.Err, word))
			default:
				l = append(l, fault(f.Err, word+" "+f.At))
			}
		}
	}
	dims := 0
	if len(x.Types) > 0 {
		dims = len(x.Types[0].Cap)
	}
	add("net", network.Check(x.Net))
	add("types", fleet.Check(x.Net, x.Types))
	add("orders", order.Check(x.Net, dims, len(x.Types), x.Orders))
	add("rules", rules.Check(len(x.Orders), x.Apart, x.Before))
	return l
}

// P13.1: for any instances.
func TestCheckFollowsTheOtherChecks(t *testing.T) {
	r := rand.New(rand.NewSource(132))
	accepted := 0
	for i := range 6000 {
		x := changed(r, drawn(r))
		if i%3 == 0 {
			x = many(r)
		}
		want := faultsOf(x)
		wantFaults(t, x, want...)
		if len(want) == 0 {
			accepted++
		}
	}
	if accepted < 300 || accepted > 5000 {
		t.Errorf("%d of 6000 instances were accepted", accepted)
	}
}

// P13.1: no fault is found exactly if none is found in a part.
func TestCheckOfVariants(t *testing.T) {
	for what, x := range variants(town(3)) {
		none := len(network.Check(x.Net)) == 0 && len(fleet.Check(x.Net, x.Types)) == 0 &&
			len(order.Check(x.Net, fleet.Dims(x.Types), len(x.Types), x.Orders)) == 0 && len(rules.Check(len(x.Orders), x.Apart, x.Before)) == 0
		if got := instance.Check(x); (len(got) == 0) != none || !slices.Equal(got, faultsOf(x)) {
			t.Errorf("%s: %v; want %v", what, got, faultsOf(x))
		}
	}
}
