package instance_test

import (
	"math/rand"
	"reflect"
	"slices"
	"strings"
	"testing"

	"lorry/api"
	"lorry/instance"
)

func wantAdded(t *testing.T, x api.Instance, o api.Order) {
	t.Helper()
	y, err := instance.Add(x, o)
	want := cloned(x)
	want.Orders = append(want.Orders, o)
	if err != api.OK || !equal(y, want) {
		t.Errorf("Add of %+v to %+v = %+v, %d; want %+v", o, x, y, err, want)
	}
	wantFaults(t, y)
}

func wantNotAdded(t *testing.T, x api.Instance, o api.Order, want api.Errno) {
	t.Helper()
	if y, err := instance.Add(x, o); err != want || !reflect.DeepEqual(y, api.Instance{}) {
		t.Errorf("Add of %+v to %+v = %+v, %d; want the error %d", o, x, y, err, want)
	}
}

// P13.1
func TestAddHasItsExample(t *testing.T) {
	for i := range 4 {
		wantNotAdded(t, town(4), parcel(town(4).Orders[i].Name), api.ErrTwice)
	}
	wantAdded(t, town(4), parcel("new"))
}

// P13.1: at most ten orders; those of an instance that has more are too many, too.
func TestAddCountsTheOrders(t *testing.T) {
	for orders := range 61 {
		x := crowd(orders)
		if orders < 10 {
			wantAdded(t, x, parcel("new"))
			wantNotAdded(t, x, api.Order{}, api.ErrName)
		} else {
			wantNotAdded(t, x, parcel("new"), api.ErrSize)
			// This error comes before those of an order, of a network, and of a type.
			wantNotAdded(t, x, api.Order{}, api.ErrSize)
			wantNotAdded(t, x, parcel("o1"), api.ErrSize)
			x.Net.Places[0], x.Types[0].Count = "", -1
			wantNotAdded(t, x, parcel("new"), api.ErrSize)
			x.Types, x.Orders[0].Off = nil, true
			wantNotAdded(t, x, parcel("new"), api.ErrSize)
		}
	}
}

// P13.1: the order is the last one, whatever it is.
func TestAddPutsTheOrderLast(t *testing.T) {
	for orders := range 10 {
		for _, change := range []func(o *api.Order){
			func(o *api.Order) {},
			func(o *api.Order) { o.Name = "a" },
			func(o *api.Order) { o.Off = true },
			func(o *api.Order) { o.Penalty = 0 },
			func(o *api.Order) { o.Pick, o.Drop, o.Split, o.Last, o.Now = o.Drop, o.Pick, 4, 1, 0 },
			func(o *api.Order) { o.Load = []int{1000, 0} },
		} {
			o := parcel("new")
			change(&o)
			wantAdded(t, town(orders), o)
		}
	}
}

// P13.1: of several faults of an order, the first one.
func TestAddReturnsTheFirstFaultOfTheOrder(t *testing.T) {
	o := parcel("new")
	// The faults are added in the opposite order, each before those that are there.
	for _, step := range []struct {
		change func(o *api.Order)
		err    api.Errno
	}{
		{func(o *api.Order) { o.Now = 2 }, api.ErrArg},
		{func(o *api.Order) { o.Skills = -1 }, api.ErrSkill},
		{func(o *api.Order) { o.Drop.Close = 9 }, api.ErrWindow},
		{func(o *api.Order) { o.Drop.Place = -1 }, api.ErrPair},
		{func(o *api.Order) { o.Load = []int{1} }, api.ErrLoad},
		{func(o *api.Order) { o.Name = "o2" }, api.ErrTwice},
		{func(o *api.Order) { o.Name = "" }, api.ErrName},
	} {
		step.change(&o)
		wantNotAdded(t, town(4), o, step.err)
	}
	far := parcel("new")
	far.Drop.Place, far.Last = 3, -2
	wantNotAdded(t, town(4), far, api.ErrPlace)
}

// P13.1: faults that are there already come before those of the new order, if their part does.
func TestAddToInstancesWithFaults(t *testing.T) {
	wrong := parcel("o0")
	for _, c := range []struct {
		change             func(x *api.Instance)
		withRight, withBad api.Errno
	}{
		{func(x *api.Instance) { x.Net.Places[0] = "" }, api.ErrName, api.ErrName},
		{func(x *api.Instance) { x.Net.Arcs[0].From = 3 }, api.ErrPlace, api.ErrPlace},
		{func(x *api.Instance) { x.Types[1].Drive = 0 }, api.ErrRest, api.ErrRest},
		{func(x *api.Instance) { x.Types = nil }, api.ErrSize, api.ErrSize},
		{func(x *api.Instance) { x.Orders[3].Skills = -1 }, api.ErrSkill, api.ErrSkill},
		{func(x *api.Instance) { x.Apart[0] = [2]int{2, 2} }, api.ErrArg, api.ErrTwice},
		{func(x *api.Instance) { x.Before[2] = [2]int{0, 5} }, api.ErrArg, api.ErrTwice},
		{func(x *api.Instance) { x.Orders[0].Penalty, x.Net.Arcs[1].Travel = -2, nil }, api.ErrSize, api.ErrSize},
	} {
		x := with(c.change)
		wantNotAdded(t, x, parcel("new"), c.withRight)
		wantNotAdded(t, x, wrong, c.withBad)
	}
}

// P13.1: the new instance is checked, and not the old one: a pair can have the number of the new order.
func TestAddCanMakeAnInstanceValid(t *testing.T) {
	for orders := 1; orders < 10; orders++ {
		x := town(orders)
		x.Apart, x.Before = append(x.Apart, [2]int{orders, 0}), append(x.Before, [2]int{0, orders})
		if len(instance.Check(x)) == 0 {
			t.Errorf("%v and %v of %d orders were accepted", x.Apart, x.Before, orders)
		}
		wantAdded(t, x, parcel("new"))
		x.Before = append(x.Before, [2]int{0, orders + 1})
		wantNotAdded(t, x, parcel("new"), api.ErrArg)
	}
}

// changedOrder returns an order in which a thing differs.
func changedOrder(r *rand.Rand, o api.Order) api.Order {
	l := cloned(api.Instance{Orders: []api.Order{o}}).Orders
	change(r, reflect.ValueOf(&l[0]).Elem())
	return l[0]
}

// P13.1: Add has an error just if the new instance has a fault, and that of the first one; without one it returns a valid instance.
func TestAddFollowsCheck(t *testing.T) {
	r := rand.New(rand.NewSource(136))
	added := 0
	for i := range 6000 {
		x := drawn(r)
		switch i % 3 {
		case 0:
			x = changed(r, x)
		case 1:
			x = many(r)
		}
		o := drawnOrder(r, strings.Repeat("n", 1+r.Intn(2)), 1+r.Intn(3), 1+r.Intn(3), len(x.Types))
		switch r.Intn(4) {
		case 0:
			o = changedOrder(r, o)
		case 1:
			o.Name = "o0"
		}
		y := cloned(x)
		y.Orders = append(y.Orders, o)
		switch faults := faultsOf(y); {
		case len(x.Orders) >= 10:
			wantNotAdded(t, x, o, api.ErrSize)
		case len(faults) > 0:
			wantNotAdded(t, x, o, faults[0].Err)
		default:
			wantAdded(t, x, o)
			added++
		}
	}
	if added < 300 {
		t.Errorf("only %d orders were added", added)
	}
}

// P13.1: orders are added one after the other, until there are ten.
func TestAddBuildsAnInstance(t *testing.T) {
	x, err := town(0), api.OK
	for i, o := range parcels(10) {
		if x, err = instance.Add(x, o); err != api.OK || len(x.Orders) != i+1 {
			t.Errorf("%d orders; error %d", len(x.Orders), err)
		}
	}
	if !slices.EqualFunc(x.Orders, parcels(10), func(a, b api.Order) bool { return reflect.DeepEqual(a, b) }) {
		t.Errorf("%+v", x.Orders)
	}
	wantNotAdded(t, x, parcel("new"), api.ErrSize)
}
