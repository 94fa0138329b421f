package split_test

import (
	"fmt"
	"math"
	"math/rand"
	"reflect"
	"slices"
	"strconv"
	"testing"

	"lorry/api"
	"lorry/instance"
	"lorry/split"
)

// pairs is a list of pairs of orders.
type pairs = [][2]int

// gone is a stop that is none.
func gone() api.Stop { return api.Stop{Place: -1} }

// parcel returns an order with a delivery alone that can be divided into so many parts.
func parcel(name string, parts int) api.Order {
	return api.Order{Name: name, Load: []int{7, 2}, Pick: gone(), Drop: api.Stop{Place: 1, Open: 10, Close: 20, Service: 5}, Skills: 6, Penalty: 10, Split: parts, Last: 1, Now: 0}
}

// part returns an order that is a part of a parcel.
func part(name string, penalty int, load ...int) api.Order {
	o := parcel(name, 1)
	o.Load, o.Penalty = load, penalty
	return o
}

func van(name string) api.Type {
	return api.Type{Name: name, Count: 2, From: 0, To: 2, Cap: []int{10, 20}, Skills: 7, Profile: 1, Open: 5, Close: 100, Drive: 50, Rest: 7, Fixed: 9, PerMile: 2, PerTick: 3}
}

func arc(from, to int) api.Arc {
	return api.Arc{From: from, To: to, Profile: 1, Miles: 6, Travel: []api.Point{{T: 0, A: 5}, {T: 20, A: 35}}, Slow: []api.Point{{T: 8, A: 1}, {T: 9, A: 2}}}
}

// town returns an instance whose orders a, b, and so on can be divided into so many parts.
func town(parts ...int) api.Instance {
	x := api.Instance{
		Net:   api.Network{Places: []string{"hub", "shop", "yard"}, Arcs: []api.Arc{arc(0, 1), arc(1, 2), arc(2, 0)}},
		Types: []api.Type{van("small"), van("large")},
	}
	for i, n := range parts {
		x.Orders = append(x.Orders, parcel(string(rune('a'+i)), n))
	}
	return x
}

// named returns a town with other names.
func named(names []string, parts ...int) api.Instance {
	x := town(parts...)
	for i, name := range names {
		x.Orders[i].Name = name
	}
	return x
}

// anyInts returns ints of all sizes.
func anyInts() []int {
	return []int{math.MinInt, math.MinInt + 1, -1 << 32, -1000, -64, -4, -3, -2, -1, 0, 1, 2, 3, 4, 5, 6, 7, 8, 9, 10, 11, 16, 62, 63, 64, 999, 1000, 1001, 1 << 32, 1<<32 + 1, 1 << 62, math.MaxInt - 9, math.MaxInt - 1, math.MaxInt}
}

func oneOf[T any](r *rand.Rand, l ...T) T { return l[r.Intn(len(l))] }

// show writes what is divided; the network and the types would make it long.
func show(x api.Instance) string {
	return fmt.Sprintf("%d places, %d types, %+v, %v, %v", len(x.Net.Places), len(x.Types), x.Orders, x.Apart, x.Before)
}

func wantValid(t *testing.T, x api.Instance) {
	t.Helper()
	if faults := instance.Check(x); len(faults) > 0 {
		t.Errorf("%d faults of %s; the first one is %+v", len(faults), show(x), faults[0])
	}
}

func wantLoads(t *testing.T, load []int, parts int, want [][]int) {
	t.Helper()
	if got, err := split.Loads(load, parts); err != api.OK || !sameLoads(got, want) {
		t.Errorf("Loads(%v, %d) = %v, %d; want %v", load, parts, got, err, want)
	}
}

func wantNoLoads(t *testing.T, load []int, parts int) {
	t.Helper()
	if got, err := split.Loads(load, parts); err != api.ErrArg || len(got) != 0 {
		t.Errorf("Loads(%v, %d) = %v, %d; want the error %d", load, parts, got, err, api.ErrArg)
	}
}

func sameLoads(a, b [][]int) bool { return slices.EqualFunc(a, b, slices.Equal[[]int]) }

// expanded returns what Expand returns without an error.
func expanded(t *testing.T, x api.Instance) (api.Instance, []int) {
	t.Helper()
	y, origin, err := split.Expand(x)
	if err != api.OK {
		t.Fatalf("Expand of %s has the error %d", show(x), err)
	}
	return y, origin
}

func wantExpanded(t *testing.T, x, want api.Instance, wantOrigin []int) {
	t.Helper()
	y, origin, err := split.Expand(x)
	if err != api.OK || !equal(y, want) || !instance.Same(y, want) || !slices.Equal(origin, wantOrigin) {
		t.Errorf("Expand of %s = %s, %v, %d; want %s, %v", show(x), show(y), origin, err, show(want), wantOrigin)
	}
}

func wantNotExpanded(t *testing.T, x api.Instance, want api.Errno) {
	t.Helper()
	if y, origin, err := split.Expand(x); err != want || !reflect.DeepEqual(y, api.Instance{}) || len(origin) != 0 {
		t.Errorf("Expand of %s = %s, %v, %d; want the error %d", show(x), show(y), origin, err, want)
	}
	// Merge has the errors of Expand, whatever its other arguments are.
	wantNotMerged(t, x, nil, api.Plan{}, want)
	wantNotMerged(t, x, []int{-1}, planOf(visits(-1)), want)
}

// visits returns a route that delivers orders.
func visits(orders ...int) api.Route {
	var r api.Route
	for _, number := range orders {
		r.Visits = append(r.Visits, api.Visit{Order: number, Drop: true})
	}
	return r
}

func planOf(routes ...api.Route) api.Plan { return api.Plan{Routes: routes} }

func share(number int, load ...int) split.Share { return split.Share{Order: number, Load: load} }

func sameShares(a, b [][]split.Share) bool {
	return slices.EqualFunc(a, b, func(a, b []split.Share) bool {
		return slices.EqualFunc(a, b, func(a, b split.Share) bool { return a.Order == b.Order && slices.Equal(a.Load, b.Load) })
	})
}

// merged returns what Merge returns without an error.
func merged(t *testing.T, x api.Instance, p api.Plan) [][]split.Share {
	t.Helper()
	_, origin := expanded(t, x)
	l, err := split.Merge(x, origin, p)
	if err != api.OK {
		t.Fatalf("Merge of %s and %+v has the error %d", show(x), p, err)
	}
	return l
}

func wantMerged(t *testing.T, x api.Instance, p api.Plan, want ...[]split.Share) {
	t.Helper()
	if got := merged(t, x, p); !sameShares(got, want) {
		t.Errorf("Merge of %+v = %v; want %v", p, got, want)
	}
}

func wantNotMerged(t *testing.T, x api.Instance, origin []int, p api.Plan, want api.Errno) {
	t.Helper()
	if l, err := split.Merge(x, origin, p); err != want || len(l) != 0 {
		t.Errorf("Merge of %s, %v, %+v = %v, %d; want the error %d", show(x), origin, p, l, err, want)
	}
}

func wantWhole(t *testing.T, x api.Instance, l [][]split.Share, unserved []int, want api.Errno) {
	t.Helper()
	if err := split.Whole(x, l, unserved); err != want {
		t.Errorf("Whole of %+v, %v, %v = %d; want %d", x.Orders, l, unserved, err, want)
	}
}

// drawn returns a valid instance; its expanded one is often just within the limits, or just beyond.
func drawn(r *rand.Rand) api.Instance {
	x := api.Instance{Net: drawnNetwork(r)}
	dims := 1 + r.Intn(3)
	for i := range 1 + r.Intn(6) {
		x.Types = append(x.Types, drawnType(r, "v"+strconv.Itoa(i), len(x.Net.Places), dims))
	}
	names := drawnNames(r)
	room := oneOf(r, r.Intn(13), 9, 10, 11)
	for room > 0 && len(x.Orders) < api.MaxOrders {
		o := drawnOrder(r, names[len(x.Orders)], len(x.Net.Places), dims, len(x.Types))
		x.Orders, room = append(x.Orders, o), room-o.Split
	}
	x.Apart, x.Before = drawnPairs(r, len(x.Orders), false), drawnPairs(r, len(x.Orders), true)
	return x
}

// drawnNames returns ten different names, in some of which one can be that of a part of another one, or too long for parts.
func drawnNames(r *rand.Rand) []string {
	l := []string{"o0", "o1", "o2", "o3", "o4", "o5", "o6", "o7", "o8", "fourteen_chars"}
	for range r.Intn(3) {
		at := r.Intn(len(l))
		name := oneOf(r, "o1_1", "o1_2", "o2_1", "o3_1", "o4_2", "o2_3", "o1_1_1", "o1_0", "o2_5", "fourteen_chars_1", "fifteen_letters", "sixteen_letters_")
		if !slices.Contains(l, name) {
			l[at] = name
		}
	}
	r.Shuffle(len(l), func(i, k int) { l[i], l[k] = l[k], l[i] })
	return l
}

func drawnNetwork(r *rand.Rand) api.Network {
	var n api.Network
	for i := range 1 + r.Intn(3) {
		n.Places = append(n.Places, "p"+strconv.Itoa(i))
	}
	for from := range n.Places {
		for to := range n.Places {
			if from != to && r.Intn(3) > 0 {
				a := arc(from, to)
				a.Miles, a.Profile = r.Intn(10001), r.Intn(8)
				n.Arcs = append(n.Arcs, a)
			}
		}
	}
	return n
}

func drawnLoad(r *rand.Rand, dims int) []int {
	l := make([]int, dims)
	for d := range l {
		l[d] = oneOf(r, 0, r.Intn(5), r.Intn(1001), 1000)
	}
	return l
}

func drawnType(r *rand.Rand, name string, places, dims int) api.Type {
	v := van(name)
	v.Count, v.From, v.To, v.Cap, v.Fixed = r.Intn(11), r.Intn(places), r.Intn(places), drawnLoad(r, dims), r.Intn(100001)
	return v
}

func drawnOrder(r *rand.Rand, name string, places, dims, types int) api.Order {
	stop := func() api.Stop {
		end := r.Intn(4097)
		return api.Stop{Place: r.Intn(places), Open: r.Intn(end + 1), Close: end, Service: r.Intn(4097)}
	}
	o := api.Order{Name: name, Load: drawnLoad(r, dims), Pick: stop(), Drop: stop(), Skills: r.Intn(1 << 30), Penalty: oneOf(r, -1, r.Intn(6), r.Intn(1000001)), Split: 1, Last: r.Intn(types+1) - 1, Now: r.Intn(types+1) - 1, Off: r.Intn(4) == 0}
	switch r.Intn(3) {
	case 0:
		o.Pick, o.Split = gone(), 1+r.Intn(4)
	case 1:
		o.Drop, o.Split = gone(), 1+r.Intn(4)
	}
	return o
}

// drawnPairs returns right pairs in any order; both is whether a pair may be there with its numbers exchanged.
func drawnPairs(r *rand.Rand, orders int, both bool) pairs {
	var l pairs
	for b := range orders {
		for a := range b {
			p, exchanged := [2]int{a, b}, [2]int{b, a}
			if both {
				l = append(l, p, exchanged)
			} else {
				l = append(l, oneOf(r, p, exchanged))
			}
		}
	}
	r.Shuffle(len(l), func(i, k int) { l[i], l[k] = l[k], l[i] })
	return l[:min(len(l), oneOf(r, 0, r.Intn(5), r.Intn(17)))]
}

// drawnExpandable returns a valid instance that has an expanded one.
func drawnExpandable(r *rand.Rand) api.Instance {
	for {
		x := drawn(r)
		if _, _, err := modelExpand(x); err == api.OK {
			return x
		}
	}
}
