package order_test

import (
	"math"
	"math/rand"
	"slices"
	"strconv"
	"testing"

	"lorry/api"
	"lorry/order"
)

// gone is a stop that is none.
func gone() api.Stop { return api.Stop{Place: -1} }

// stop returns a right stop at a place.
func stop(place int) api.Stop {
	return api.Stop{Place: place, Open: 10, Close: 20, Service: 5}
}

// parcel returns an order that is right for a network with a place; it has a delivery alone.
func parcel(name string, load ...int) api.Order {
	return api.Order{Name: name, Load: load, Pick: gone(), Drop: stop(0), Penalty: -1, Split: 1, Last: -1, Now: -1}
}

// parcels returns so many right orders with different names and two dimensions.
func parcels(count int) []api.Order {
	l := make([]api.Order, count)
	for i := range l {
		l[i] = parcel("o"+strconv.Itoa(i), i, 1)
	}
	return l
}

// with returns a right order with two dimensions and both stops, in which something is changed.
func with(change func(o *api.Order)) api.Order {
	o := parcel("parcel", 5, 7)
	o.Pick = stop(0)
	change(&o)
	return o
}

// between returns an order with places for its pickup and its delivery.
func between(pick, drop int) api.Order {
	return with(func(o *api.Order) { o.Pick.Place, o.Drop.Place = pick, drop })
}

// network returns a network with so many places.
func network(places int) api.Network {
	return api.Network{Places: slices.Repeat([]string{"p"}, places)}
}

// anyInts returns ints of all sizes; some of them are within the limits if they are cut to fewer bits.
func anyInts() []int {
	return []int{math.MinInt, math.MinInt + 1, -1 << 32, -1<<32 + 1, -2, -1, 0, 1, 2, 3, 4, 5, 10, 11, 62, 63, 64, 1000, 1001, 4096, 4097, 1000000, 1000001, 1<<30 - 1, 1 << 30, 1 << 31, 1 << 32, 1<<32 + 1, math.MaxInt - 1, math.MaxInt}
}

// at returns the faults of the order with an index.
func at(index int, errs ...api.Errno) []api.Fault {
	var l []api.Fault
	for _, err := range errs {
		l = append(l, api.Fault{Err: err, At: strconv.Itoa(index)})
	}
	return l
}

// size is the fault of a list with too many orders.
func size() []api.Fault {
	return []api.Fault{{Err: api.ErrSize}}
}

// setting is what orders are checked against.
type setting struct{ places, dims, types int }

// usual is the setting of parcels and of with.
func usual() setting { return setting{places: 3, dims: 2, types: 2} }

func (s setting) check(l []api.Order) []api.Fault {
	return order.Check(network(s.places), s.dims, s.types, l)
}

func (s setting) want(t *testing.T, l []api.Order, want ...[]api.Fault) {
	t.Helper()
	if got := s.check(l); !slices.Equal(got, slices.Concat(want...)) {
		t.Errorf("Check of %d orders with %+v, %+v = %v; want %v", len(l), s, l, got, slices.Concat(want...))
	}
}

// wantOrder checks an order alone, and among others.
func (s setting) wantOrder(t *testing.T, o api.Order, errs ...api.Errno) {
	t.Helper()
	s.want(t, []api.Order{o}, at(0, errs...))
	other := o
	other.Name = "other"
	again := s.check([]api.Order{other, o, o})
	want := slices.Concat(at(1, errs...), at(2, twice(errs)...))
	if got := slices.DeleteFunc(again, func(f api.Fault) bool { return f.At == "0" }); !slices.Equal(got, want) {
		t.Errorf("Check of %+v with %+v, as the second and the third order = %v; want %v", o, s, got, want)
	}
}

// twice adds the error of a name that is there already.
func twice(errs []api.Errno) []api.Errno {
	if slices.Contains(errs, api.ErrName) {
		return slices.Insert(slices.Clone(errs), 1, api.ErrTwice)
	}
	return slices.Insert(slices.Clone(errs), 0, api.ErrTwice)
}

// cloned returns orders that share no memory with the originals.
func cloned(l []api.Order) []api.Order {
	l = slices.Clone(l)
	for i := range l {
		l[i].Load = slices.Clone(l[i].Load)
	}
	return l
}

// fields returns the numbers of an order.
func fields(o *api.Order) []*int {
	return []*int{&o.Pick.Place, &o.Pick.Open, &o.Pick.Close, &o.Pick.Service, &o.Drop.Place, &o.Drop.Open, &o.Drop.Close, &o.Drop.Service, &o.Skills, &o.Penalty, &o.Split, &o.Last, &o.Now}
}

// drawnStop returns a right stop.
func drawnStop(r *rand.Rand, places int) api.Stop {
	s := api.Stop{Place: r.Intn(places), Close: r.Intn(4097), Service: r.Intn(4097)}
	s.Open = r.Intn(s.Close + 1)
	return s
}

// drawn returns right orders; the setting has at least one place.
func drawn(r *rand.Rand, s setting) []api.Order {
	l := parcels(1 + r.Intn(10))
	for i := range l {
		o := &l[i]
		o.Load = make([]int, s.dims)
		for d := range o.Load {
			o.Load[d] = r.Intn(1001)
		}
		o.Pick, o.Drop = drawnStop(r, s.places), drawnStop(r, s.places)
		switch r.Intn(3) {
		case 0:
			o.Pick, o.Split = gone(), 1+r.Intn(4)
		case 1:
			o.Drop, o.Split = gone(), 1+r.Intn(4)
		}
		o.Skills, o.Penalty = r.Intn(1<<30), r.Intn(1000002)-1
		o.Last, o.Now = r.Intn(s.types+1)-1, r.Intn(s.types+1)-1
		o.Off = r.Intn(4) == 0
	}
	return l
}

// changed replaces some names and numbers of orders by others, which can be wrong.
func changed(r *rand.Rand, l []api.Order) []api.Order {
	l = cloned(l)
	numbers := anyInts()
	for range 1 + r.Intn(5) {
		o := &l[r.Intn(len(l))]
		number := numbers[r.Intn(len(numbers))]
		switch field := r.Intn(18); field {
		case 13:
			o.Name = []string{"o0", "o1", "o2", "w", "", "1x"}[r.Intn(6)]
		case 14:
			o.Load = append(o.Load, number)
		case 15:
			o.Load = o.Load[:r.Intn(len(o.Load)+1)]
		case 16:
			if len(o.Load) > 0 {
				o.Load[r.Intn(len(o.Load))] = number
			}
		case 17:
			o.Pick, o.Drop, o.Off = o.Drop, o.Pick, !o.Off
		default:
			*fields(o)[field] = number
		}
	}
	return l
}
