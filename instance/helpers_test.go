package instance_test

import (
	"math"
	"math/rand"
	"reflect"
	"slices"
	"strconv"
	"testing"

	"lorry/api"
	"lorry/instance"
)

// pairs is a list of pairs of orders.
type pairs = [][2]int

// gone is a stop that is none.
func gone() api.Stop { return api.Stop{Place: -1} }

// parcel returns an order with a delivery alone; its load has two dimensions.
func parcel(name string) api.Order {
	return api.Order{Name: name, Load: []int{3, 4}, Pick: gone(), Drop: api.Stop{Place: 1, Open: 10, Close: 20, Service: 5}, Penalty: -1, Split: 1, Last: -1, Now: -1}
}

// parcels returns so many orders with different names.
func parcels(count int) []api.Order {
	l := make([]api.Order, count)
	for i := range l {
		l[i] = parcel("o" + strconv.Itoa(i))
	}
	return l
}

// van returns a type with a capacity of two dimensions.
func van(name string) api.Type {
	return api.Type{Name: name, Count: 2, From: 0, To: 2, Cap: []int{10, 20}, Skills: 5, Profile: 1, Open: 5, Close: 100, Drive: 50, Rest: 7, Fixed: 9, PerMile: 2, PerTick: 3}
}

func arc(from, to int) api.Arc {
	return api.Arc{From: from, To: to, Profile: 1, Miles: 6, Travel: []api.Point{{T: 0, A: 5}, {T: 20, A: 35}}, Slow: []api.Point{{T: 8, A: 1}, {T: 9, A: 2}}}
}

// town returns a valid instance with so many orders, up to ten, and something in each list.
func town(orders int) api.Instance {
	x := api.Instance{
		Net:    api.Network{Places: []string{"hub", "shop", "yard"}, Arcs: []api.Arc{arc(0, 1), arc(1, 2), arc(2, 0)}},
		Types:  []api.Type{van("small"), van("large")},
		Orders: parcels(orders),
	}
	for i := 1; i < orders; i++ {
		x.Apart, x.Before = append(x.Apart, [2]int{i, i - 1}), append(x.Before, [2]int{i - 1, i})
	}
	return x
}

// with returns a town with four orders, in which something is changed.
func with(change func(x *api.Instance)) api.Instance {
	x := town(4)
	change(&x)
	return x
}

// crowd returns an instance with so many orders and no pairs; with more than ten it has the fault ErrSize.
func crowd(orders int) api.Instance {
	x := town(0)
	x.Orders = parcels(orders)
	return x
}

// setOf adds powers of two.
func setOf(orders ...int) int {
	set := 0
	for _, i := range orders {
		set += 1 << i
	}
	return set
}

// in reports by division whether an order is in a set that is not negative.
func in(set, order int) bool {
	for range order {
		set /= 2
	}
	return set%2 == 1
}

// anyInts returns ints of all sizes; some of them are numbers of orders if they are cut to fewer bits.
func anyInts() []int {
	return []int{math.MinInt, math.MinInt + 1, -1 << 32, -64, -63, -2, -1, 0, 1, 2, 3, 7, 9, 10, 11, 16, 59, 60, 61, 62, 63, 64, 65, 127, 128, 1000, 4097, 1 << 32, 1<<32 + 1, 1 << 60, 1<<60 - 1, 1 << 61, 1 << 62, math.MaxInt - 1, math.MaxInt}
}

func oneOf[T any](r *rand.Rand, l ...T) T { return l[r.Intn(len(l))] }

func fault(err api.Errno, at string) api.Fault { return api.Fault{Err: err, At: at} }

func wantFaults(t *testing.T, x api.Instance, want ...api.Fault) {
	t.Helper()
	if got := instance.Check(x); !slices.Equal(got, want) {
		t.Errorf("Check of %+v = %v; want %v", x, got, want)
	}
}

// only returns what Only does without an error.
func only(t *testing.T, x api.Instance, set int) (api.Instance, []int) {
	t.Helper()
	y, numbers, err := instance.Only(x, set)
	if err != api.OK {
		t.Errorf("Only of %b of %d orders has the error %d", set, len(x.Orders), err)
	}
	return y, numbers
}

// drawn returns a valid instance with up to ten orders.
func drawn(r *rand.Rand) api.Instance {
	x := api.Instance{Net: drawnNetwork(r)}
	dims := 1 + r.Intn(3)
	for i := range 1 + r.Intn(6) {
		x.Types = append(x.Types, drawnType(r, "v"+strconv.Itoa(i), len(x.Net.Places), dims))
	}
	for i := range r.Intn(11) {
		x.Orders = append(x.Orders, drawnOrder(r, "o"+strconv.Itoa(i), len(x.Net.Places), dims, len(x.Types)))
	}
	x.Apart, x.Before = drawnPairs(r, len(x.Orders), false), drawnPairs(r, len(x.Orders), true)
	return x
}

func drawnNetwork(r *rand.Rand) api.Network {
	var n api.Network
	for i := range 1 + r.Intn(4) {
		n.Places = append(n.Places, "p"+strconv.Itoa(i))
	}
	for from := range n.Places {
		for to := range n.Places {
			if from != to && r.Intn(3) > 0 {
				n.Arcs = append(n.Arcs, api.Arc{From: from, To: to, Profile: r.Intn(8), Miles: r.Intn(10001), Travel: drawnPoints(r, 1+r.Intn(3), true), Slow: drawnPoints(r, r.Intn(3), false)})
			}
		}
	}
	return n
}

// drawnPoints returns points of a travel function, or of delays.
func drawnPoints(r *rand.Rand, count int, travel bool) []api.Point {
	var l []api.Point
	for i := range count {
		p := api.Point{T: 100*i + r.Intn(50), A: r.Intn(50)}
		if travel {
			p.A += 100*i + 60
		}
		l = append(l, p)
	}
	return l
}

func drawnLoad(r *rand.Rand, dims int) []int {
	l := make([]int, dims)
	for d := range l {
		l[d] = r.Intn(1001)
	}
	return l
}

func drawnType(r *rand.Rand, name string, places, dims int) api.Type {
	v := api.Type{Name: name, Count: r.Intn(11), From: r.Intn(places), To: r.Intn(places), Cap: drawnLoad(r, dims), Skills: r.Intn(1 << 30), Profile: r.Intn(8), Close: r.Intn(4097), Drive: 1 + r.Intn(4096), Rest: r.Intn(4097), Fixed: r.Intn(100001), PerMile: r.Intn(101), PerTick: r.Intn(101)}
	v.Open = r.Intn(v.Close + 1)
	return v
}

func drawnOrder(r *rand.Rand, name string, places, dims, types int) api.Order {
	stop := func() api.Stop {
		end := r.Intn(4097)
		return api.Stop{Place: r.Intn(places), Open: r.Intn(end + 1), Close: end, Service: r.Intn(4097)}
	}
	o := api.Order{Name: name, Load: drawnLoad(r, dims), Pick: stop(), Drop: stop(), Skills: r.Intn(1 << 30), Penalty: oneOf(r, -1, 0, r.Intn(1000001)), Split: 1, Last: r.Intn(types+1) - 1, Now: r.Intn(types+1) - 1, Off: r.Intn(4) == 0}
	switch r.Intn(3) {
	case 0:
		o.Pick, o.Split = gone(), 1+r.Intn(4)
	case 1:
		o.Drop, o.Split = gone(), 1+r.Intn(4)
	}
	return o
}

// drawnPairs returns right pairs in any order; both is whether a pair may be there with its numbers exchanged.
func drawnPairs(r *rand.Rand, orders int, both bool) pairs {
	var l pairs
	for b := range orders {
		for a := range b {
			p, exchanged := [2]int{a, b}, [2]int{b, a}
			if both {
				l = append(l, p, exchanged)
			} else {
				l = append(l, oneOf(r, p, exchanged))
			}
		}
	}
	r.Shuffle(len(l), func(i, k int) { l[i], l[k] = l[k], l[i] })
	return l[:min(len(l), r.Intn(17))]
}

// changed returns a copy in which some things differ, so that it can be wrong.
func changed(r *rand.Rand, x api.Instance) api.Instance {
	y := cloned(x)
	for range 1 + r.Intn(4) {
		change(r, reflect.ValueOf(&y).Elem())
	}
	return y
}

// many returns an instance with up to 60 orders and any pairs, also of numbers that are none of orders.
func many(r *rand.Rand) api.Instance {
	x := changed(r, drawn(r))
	count := r.Intn(61)
	x.Orders = x.Orders[:min(len(x.Orders), count)]
	for i := len(x.Orders); i < count; i++ {
		x.Orders = append(x.Orders, drawnOrder(r, "o"+strconv.Itoa(i), 3, 2, 2))
	}
	for _, l := range []*pairs{&x.Apart, &x.Before} {
		for range r.Intn(100) {
			p := [2]int{r.Intn(count + 1), r.Intn(count + 1)}
			if r.Intn(4) == 0 {
				p[r.Intn(2)] = oneOf(r, anyInts()...)
			}
			*l = append(*l, p)
		}
	}
	return x
}

// mixed returns an instance that is valid, or has any orders and pairs.
func mixed(r *rand.Rand) api.Instance {
	return oneOf(r, drawn, many)(r)
}
