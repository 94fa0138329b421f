package instance_test

import (
	"math"
	"math/rand"
	"reflect"
	"slices"
	"strings"
	"testing"

	"lorry/api"
	"lorry/instance"
)

// results calls every function with an instance, another one, and a set, and returns what they return.
func results(x, y api.Instance, set int) []any {
	r := []any{instance.Check(x), instance.Same(x, y), instance.Same(x, x), instance.All(x), instance.Must(x)}
	for _, set := range []int{set, 0, 1, 5, 1<<min(len(x.Orders), 62) - 1, 1 << 62, math.MaxInt} {
		part, numbers, err := instance.Only(x, set)
		r = append(r, part, numbers, err)
	}
	for _, o := range slices.Concat(y.Orders[:min(len(y.Orders), 3)], []api.Order{{}, parcel("new")}) {
		more, err := instance.Add(x, o)
		r = append(r, more, err)
	}
	return r
}

// R4: neither the lists are modified nor what lies behind them.
func TestArgumentsAreNotModified(t *testing.T) {
	r := rand.New(rand.NewSource(141))
	for i := range 500 {
		x := roomy(drawn(r))
		if i%3 == 0 {
			x = roomy(many(r))
		}
		y := roomy(changed(r, x))
		beforeX, beforeY := snapshot(x), snapshot(y)
		results(x, y, r.Int()&(1<<len(x.Orders)-1))
		if !reflect.DeepEqual(snapshot(x), beforeX) || !reflect.DeepEqual(snapshot(y), beforeY) {
			t.Errorf("%+v became %+v, or %+v became %+v", beforeX, snapshot(x), beforeY, snapshot(y))
		}
	}
}

// R4: an order that is added stays as it was, and what lies behind its load.
func TestAddedOrdersAreNotModified(t *testing.T) {
	load := []int{3, 4, 5}
	o := parcel("new")
	o.Load = load[:2]
	y, err := instance.Add(roomy(town(4)), o)
	if err != api.OK {
		t.Errorf("error %d", err)
	}
	overwrite(y)
	if !slices.Equal(load, []int{3, 4, 5}) {
		t.Errorf("the load became %v", load)
	}
}

// R4: what is done to a result does not reach the arguments, and what is done to the arguments does not reach a result.
func TestResultsAreNew(t *testing.T) {
	for _, of := range []func(x api.Instance) (api.Instance, api.Errno){
		func(x api.Instance) (api.Instance, api.Errno) { return instance.Add(x, parcel("new")) },
		func(x api.Instance) (api.Instance, api.Errno) {
			y, _, err := instance.Only(x, 15)
			return y, err
		},
		func(x api.Instance) (api.Instance, api.Errno) {
			y, _, err := instance.Only(x, 6)
			return y, err
		},
	} {
		x := roomy(town(4))
		before := snapshot(x)
		first, err := of(x)
		want := cloned(first)
		overwrite(first)
		if err != api.OK || !reflect.DeepEqual(snapshot(x), before) {
			t.Errorf("%+v became %+v; error %d", before, snapshot(x), err)
		}
		second, err := of(x)
		overwrite(x)
		if err != api.OK || !equal(second, want) {
			t.Errorf("%+v became %+v; error %d", want, second, err)
		}
	}
	x := town(4)
	_, numbers := only(t, x, 10)
	clear(numbers[:cap(numbers)])
	wantOnly(t, x, 10)
	x.Orders[1].Name = ""
	clear(instance.Check(x))
	wantFaults(t, x, fault(api.ErrName, "orders 1"))
}

// R4: no two lists of a result share memory, even if those of the argument do.
func TestListsOfResultsAreApart(t *testing.T) {
	points, load, capacity := []api.Point{{T: 3, A: 4}}, []int{1, 2}, []int{8, 9}
	x := with(func(x *api.Instance) {
		x.Apart = x.Before
		for i := range x.Net.Arcs {
			x.Net.Arcs[i].Travel, x.Net.Arcs[i].Slow = points, points
		}
		for i := range x.Types {
			x.Types[i].Cap = capacity
		}
		for i := range x.Orders {
			x.Orders[i].Load = load
		}
	})
	part, _ := only(t, x, 15)
	o := parcel("new")
	o.Load = load
	more, err := instance.Add(x, o)
	if err != api.OK {
		t.Errorf("error %d", err)
	}
	for _, y := range []api.Instance{part, more} {
		wantListsApart(t, y)
	}
}

// wantListsApart increases each number of an instance by 1; one that two lists share is increased twice.
func wantListsApart(t *testing.T, y api.Instance) {
	t.Helper()
	before := cloned(y)
	for _, number := range numbersOf(reflect.ValueOf(&y).Elem()) {
		number.SetInt(number.Int() + 1)
	}
	old := numbersOf(reflect.ValueOf(before))
	for i, number := range numbersOf(reflect.ValueOf(y)) {
		if number.Int() != old[i].Int()+1 {
			t.Errorf("%+v became %+v", before, y)
			return
		}
	}
}

// numbersOf returns all numbers of a value.
func numbersOf(v reflect.Value) []reflect.Value {
	var l []reflect.Value
	switch v.Kind() {
	case reflect.Struct:
		for i := range v.NumField() {
			l = append(l, numbersOf(v.Field(i))...)
		}
	case reflect.Slice, reflect.Array:
		for i := range v.Len() {
			l = append(l, numbersOf(v.Index(i))...)
		}
	case reflect.Int:
		l = append(l, v)
	}
	return l
}

// strange returns instances that are not valid.
func strange() []api.Instance {
	r := rand.New(rand.NewSource(142))
	l := []api.Instance{
		{},
		{Orders: make([]api.Order, 5)},
		{Types: make([]api.Type, 9), Orders: make([]api.Order, 70)},
		{Net: api.Network{Places: make([]string, 30), Arcs: make([]api.Arc, 30)}, Apart: make(pairs, 30), Before: make(pairs, 30)},
		crowd(61), crowd(62), crowd(63), crowd(64), crowd(65), crowd(200),
	}
	for _, number := range anyInts() {
		x := town(10)
		for _, v := range numbersOf(reflect.ValueOf(&x).Elem()) {
			v.SetInt(int64(number))
		}
		y := crowd(64)
		y.Apart, y.Before = pairs{{number, number}, {0, number}, {number, 63}}, pairs{{number, 62}, {1, number}}
		l = append(l, x, y)
	}
	for range 500 {
		l = append(l, many(r))
	}
	return l
}

// R1: whatever the arguments are; R6: the same call has the same results.
func TestAllCallsEnd(t *testing.T) {
	r := rand.New(rand.NewSource(143))
	l := strange()
	for _, x := range l {
		for range 3 {
			y, set := oneOf(r, l...), oneOf(r, anyInts()...)
			if first, second := results(x, y, set), results(x, y, set); !reflect.DeepEqual(first, second) {
				t.Errorf("%+v, %+v, %d: %v, then %v", x, y, set, first, second)
			}
		}
	}
}

// R1: each set.
func TestAllSetsEnd(t *testing.T) {
	for _, x := range []api.Instance{{}, town(4), crowd(60), crowd(62), crowd(63), crowd(64), crowd(100)} {
		for _, set := range anyInts() {
			results(x, town(2), set)
		}
	}
}

// R1: long lists, too.
func TestLongListsEnd(t *testing.T) {
	const long = 30000
	x := api.Instance{
		Net:    api.Network{Places: make([]string, long), Arcs: make([]api.Arc, long)},
		Types:  make([]api.Type, long),
		Orders: parcels(long),
		Apart:  slices.Repeat(pairs{{0, 1}, {70, long - 1}, {-1, math.MaxInt}}, long),
		Before: slices.Repeat(pairs{{1, 0}, {62, 63}}, long),
	}
	x.Orders[0].Name = strings.Repeat("n", 1<<20)
	results(x, x, 1<<61-1)
	part, numbers := only(t, x, 3)
	if len(part.Orders) != 2 || len(part.Apart) != long || len(part.Before) != long || len(part.Types) != long || len(numbers) != 2 {
		t.Errorf("%d orders, %d and %d pairs", len(part.Orders), len(part.Apart), len(part.Before))
	}
}
