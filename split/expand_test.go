package split_test

import (
	"math/rand"
	"reflect"
	"slices"
	"testing"

	"lorry/api"
	"lorry/split"
)

// wantOrders checks the orders of the expanded instance of one without pairs, and that its network and types are the same.
func wantOrders(t *testing.T, x api.Instance, origin []int, want ...api.Order) {
	t.Helper()
	y := cloned(x)
	y.Orders = want
	wantExpanded(t, x, y, origin)
}

// P15.2: no order, one, and several ones are divided, at the beginning, in the middle and at the end.
func TestExpandDividesOrders(t *testing.T) {
	a, b, c := parcel("a", 1), parcel("b", 1), parcel("c", 1)
	wantOrders(t, town(), nil)
	wantOrders(t, town(1), []int{0}, a)
	wantOrders(t, town(1, 1, 1), []int{0, 1, 2}, a, b, c)
	wantOrders(t, town(2), []int{0, 0}, part("a_1", 5, 4, 1), part("a_2", 5, 3, 1))
	wantOrders(t, town(3, 1, 1), []int{0, 0, 0, 1, 2}, part("a_1", 4, 3, 1), part("a_2", 3, 2, 1), part("a_3", 3, 2, 0), b, c)
	wantOrders(t, town(1, 4, 1), []int{0, 1, 1, 1, 1, 2}, a, part("b_1", 3, 2, 1), part("b_2", 3, 2, 1), part("b_3", 2, 2, 0), part("b_4", 2, 1, 0), c)
	wantOrders(t, town(1, 1, 2), []int{0, 1, 2, 2}, a, b, part("c_1", 5, 4, 1), part("c_2", 5, 3, 1))
	wantOrders(t, town(2, 1, 2), []int{0, 0, 1, 2, 2}, part("a_1", 5, 4, 1), part("a_2", 5, 3, 1), b, part("c_1", 5, 4, 1), part("c_2", 5, 3, 1))
	wantOrders(t, town(2, 3), []int{0, 0, 1, 1, 1}, part("a_1", 5, 4, 1), part("a_2", 5, 3, 1), part("b_1", 4, 3, 1), part("b_2", 3, 2, 1), part("b_3", 3, 2, 0))
}

// P15.2: the parts have what the order has, and orders that are not divided stay as they are.
func TestExpandKeepsTheOtherFields(t *testing.T) {
	for _, change := range []func(o *api.Order){
		func(o *api.Order) {},
		func(o *api.Order) { o.Off = true },
		func(o *api.Order) { o.Pick, o.Drop = o.Drop, o.Pick },
		func(o *api.Order) { o.Pick = api.Stop{Place: -1, Open: 3, Close: 8, Service: 1} },
		func(o *api.Order) { o.Drop = api.Stop{Place: 2, Open: 4096, Close: 4096, Service: 4096} },
		func(o *api.Order) { o.Skills = 1<<30 - 1 },
		func(o *api.Order) { o.Skills, o.Last, o.Now = 0, -1, -1 },
		func(o *api.Order) { o.Last, o.Now = 0, 1 },
	} {
		for parts := 1; parts <= 4; parts++ {
			x := town(1, parts, 1)
			change(&x.Orders[1])
			y, _ := expanded(t, x)
			for _, one := range y.Orders[1 : 1+parts] {
				wantOtherFields(t, x.Orders[1], one)
			}
			if !equal(y.Orders[0], x.Orders[0]) || !equal(y.Orders[1+parts], x.Orders[2]) || parts == 1 && !equal(y.Orders[1], x.Orders[1]) {
				t.Errorf("%+v became %+v", x.Orders, y.Orders)
			}
		}
	}
}

// wantOtherFields compares all fields but those that differ in parts.
func wantOtherFields(t *testing.T, a, b api.Order) {
	t.Helper()
	v, w := reflect.ValueOf(a), reflect.ValueOf(b)
	compared := 0
	for i := range v.NumField() {
		if name := v.Type().Field(i).Name; !slices.Contains([]string{"Name", "Load", "Penalty", "Split"}, name) {
			compared++
			if !reflect.DeepEqual(v.Field(i).Interface(), w.Field(i).Interface()) {
				t.Errorf("%s of %+v is not that of %+v", name, b, a)
			}
		}
	}
	if compared == 0 {
		t.Errorf("no field was compared")
	}
}

// P15.2: a part of an order that must be served must be, too; other Penalties are divided, also those that are greater than any load.
func TestExpandDividesPenalties(t *testing.T) {
	for _, c := range []struct {
		penalty int
		want    []int
	}{
		{-1, []int{-1, -1}}, {-1, []int{-1, -1, -1}}, {-1, []int{-1, -1, -1, -1}}, {-1, []int{-1}},
		{0, []int{0}}, {0, []int{0, 0}}, {0, []int{0, 0, 0}}, {0, []int{0, 0, 0, 0}},
		{1, []int{1}}, {1, []int{1, 0}}, {1, []int{1, 0, 0, 0}}, {2, []int{1, 1, 0}}, {3, []int{2, 1}}, {5, []int{2, 1, 1, 1}}, {7, []int{2, 2, 2, 1}},
		{1001, []int{501, 500}}, {1000000, []int{1000000}}, {1000000, []int{500000, 500000}}, {1000000, []int{333334, 333333, 333333}}, {1000000, []int{250000, 250000, 250000, 250000}}, {999999, []int{250000, 250000, 250000, 249999}},
	} {
		x := town(1, len(c.want))
		x.Orders[0].Penalty, x.Orders[1].Penalty = 17, c.penalty
		y, _ := expanded(t, x)
		var got []int
		for _, o := range y.Orders[1:] {
			got = append(got, o.Penalty)
		}
		if !slices.Equal(got, c.want) || y.Orders[0].Penalty != 17 {
			t.Errorf("the Penalty %d is divided into %v; want %v", c.penalty, got, c.want)
		}
	}
}

// P15.2: as a load is.
func TestExpandDividesEachPenalty(t *testing.T) {
	for penalty := range 2000 {
		for parts := 2; parts <= 4; parts++ {
			x := town(parts)
			x.Orders[0].Penalty = penalty
			y, _ := expanded(t, x)
			for k, want := range dealt(penalty, parts) {
				if y.Orders[k].Penalty != want {
					t.Errorf("part %d of %d of the Penalty %d is %d; want %d", k, parts, penalty, y.Orders[k].Penalty, want)
				}
			}
		}
	}
}

// P15.2: loads of one and of three dimensions, with zeros and with the greatest number.
func TestExpandDividesLoads(t *testing.T) {
	for _, load := range [][]int{{0}, {1000}, {1}, {0, 0, 0}, {1000, 1000, 1000}, {1, 2, 3}, {1000, 0, 999}} {
		for parts := 1; parts <= 4; parts++ {
			x := town(1, parts)
			for i := range x.Types {
				x.Types[i].Cap = load
			}
			x.Orders[0].Load, x.Orders[1].Load = load, load
			y, _ := expanded(t, x)
			for k, want := range modelLoads(load, parts) {
				if !slices.Equal(y.Orders[1+k].Load, want) {
					t.Errorf("part %d of %d of %v is %v; want %v", k, parts, load, y.Orders[1+k].Load, want)
				}
			}
			if !slices.Equal(y.Orders[0].Load, load) {
				t.Errorf("%v became %v", load, y.Orders[0].Load)
			}
		}
	}
}

// eachList calls f with every list of numbers of parts that has at most so many parts in all.
func eachList(room int, f func(l []int)) {
	var extend func(l []int, room int)
	extend = func(l []int, room int) {
		f(l)
		for parts := 1; parts <= min(4, room) && len(l) < 10; parts++ {
			extend(append(slices.Clone(l), parts), room-parts)
		}
	}
	extend(nil, room)
}

// P15.2: at most ten orders.
func TestExpandCountsTheOrders(t *testing.T) {
	most := 0
	eachList(12, func(l []int) {
		count := 0
		for _, parts := range l {
			count += parts
		}
		if count > 10 {
			wantNotExpanded(t, town(l...), api.ErrSize)
			return
		}
		y, origin := expanded(t, town(l...))
		if len(y.Orders) != count || len(origin) != count {
			t.Errorf("%d orders and %d origins of the parts %v", len(y.Orders), len(origin), l)
		}
		most = max(most, count)
	})
	if most != 10 {
		t.Errorf("at most %d orders", most)
	}
	wantNotExpanded(t, town(4, 4, 4, 4, 4, 4, 4, 4, 4, 4), api.ErrSize)
	wantNotExpanded(t, town(1, 1, 1, 1, 1, 1, 1, 1, 1, 2), api.ErrSize)
	wantNotExpanded(t, town(2, 1, 1, 1, 1, 1, 1, 1, 1, 1), api.ErrSize)
}

// P15.2: cancelled orders are divided and counted like others.
func TestExpandCountsCancelledOrders(t *testing.T) {
	for _, parts := range [][]int{{4, 4, 2}, {4, 4, 3}} {
		x := town(parts...)
		for i := range x.Orders {
			x.Orders[i].Off = true
		}
		if parts[2] == 3 {
			wantNotExpanded(t, x, api.ErrSize)
			continue
		}
		y, _ := expanded(t, x)
		if len(y.Orders) != 10 || slices.ContainsFunc(y.Orders, func(o api.Order) bool { return !o.Off }) {
			t.Errorf("%+v", y.Orders)
		}
	}
}

// P15.2: an instance as large as one can be.
func TestExpandOfLargeInstances(t *testing.T) {
	for _, parts := range [][]int{{4, 4, 2}, {1, 1, 1, 1, 1, 1, 1, 1, 1, 1}} {
		x := town(parts...)
		x.Net = api.Network{}
		for i := range 24 {
			x.Net.Places = append(x.Net.Places, "place_"+string(rune('a'+i)))
		}
		points := slices.Repeat([]api.Point{{}}, 16)
		for i := range points {
			points[i] = api.Point{T: i, A: 4081 + i}
		}
		for i := 0; len(x.Net.Arcs) < 1024; i++ {
			if from, to := i/24%24, i%24; from != to {
				x.Net.Arcs = append(x.Net.Arcs, api.Arc{From: from, To: to, Profile: i / 576, Miles: 10000, Travel: points, Slow: points})
			}
		}
		x.Types = []api.Type{van("a"), van("b"), van("c"), van("d"), van("e"), van("f")}
		wantValid(t, x)
		want, origin, _ := modelExpand(x)
		wantExpanded(t, x, want, origin)
	}
}

// P15.2: any valid instances.
func TestExpandFollowsTheModel(t *testing.T) {
	r := rand.New(rand.NewSource(1502))
	seen := make(map[api.Errno]int)
	for range 20000 {
		x := drawn(r)
		wantValid(t, x)
		want, origin, err := modelExpand(x)
		if err == api.OK {
			wantExpanded(t, x, want, origin)
		} else {
			wantNotExpanded(t, x, err)
		}
		seen[err]++
	}
	for _, err := range []api.Errno{api.OK, api.ErrSize, api.ErrName, api.ErrTwice} {
		if seen[err] < 200 {
			t.Errorf("the error %d was there %d times", err, seen[err])
		}
	}
}

// P15.2, R6: the same call returns the same each time.
func TestExpandAgain(t *testing.T) {
	x := town(2, 1, 3)
	x.Apart = pairs{{2, 0}}
	want, origin, _ := modelExpand(x)
	for range 3 {
		wantExpanded(t, x, want, origin)
		wantNotExpanded(t, named([]string{"b_1"}, 1, 2), api.ErrTwice)
		split.Expand(town(4, 4, 4))
	}
}
