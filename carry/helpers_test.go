package carry_test

import (
	"fmt"
	"math"
	"math/rand"
	"reflect"
	"slices"
	"strconv"
	"strings"
	"testing"
	"unicode"

	"lorry/api"
	"lorry/carry"
	"lorry/instance"
	"lorry/sequence"
)

// load reads a load: 6 1 has two dimensions.
func load(s string) []int {
	var l []int
	for _, field := range strings.Fields(s) {
		n, err := strconv.Atoi(field)
		if err != nil {
			panic(err)
		}
		l = append(l, n)
	}
	return l
}

// show writes loads as they are read.
func show(l ...[]int) string {
	var s []string
	for _, one := range l {
		s = append(s, strings.Trim(fmt.Sprint(one), "[]"))
	}
	return strings.Join(s, ", ")
}

// visits reads visits: a is the pickup of the order 0, A its delivery, b the pickup of the order 1, and so on.
func visits(s string) []api.Visit {
	var l []api.Visit
	for _, letter := range s {
		l = append(l, api.Visit{Order: int(unicode.ToLower(letter) - 'a'), Drop: unicode.IsUpper(letter)})
	}
	return l
}

// town returns an instance with a type for each capacity (10 2, 5 5), and the orders: b 6 1 is one with both places and the load 6 1, p 6 1 one with a pickup alone, and d 6 1 one with a delivery alone.
func town(capacities string, orders ...string) api.Instance {
	x := api.Instance{Net: api.Network{Places: []string{"hub", "shop"}, Arcs: []api.Arc{{From: 0, To: 1, Travel: []api.Point{{T: 0, A: 5}}}}}}
	for i, s := range strings.Split(capacities, ",") {
		x.Types = append(x.Types, api.Type{Name: "van" + strconv.Itoa(i), Count: 1, Cap: load(s), Close: 100, Drive: 50})
	}
	for i, s := range orders {
		o := api.Order{Name: string(rune('a' + i)), Load: load(s[1:]), Pick: api.Stop{Place: 1, Close: 50}, Drop: api.Stop{Close: 50}, Split: 1, Last: -1, Now: -1}
		switch s[0] {
		case 'p':
			o.Drop = api.Stop{Place: -1}
		case 'd':
			o.Pick = api.Stop{Place: -1}
		}
		x.Orders = append(x.Orders, o)
	}
	return x
}

// pairs reads pairs of orders: ab is the pair of the orders 0 and 1.
func pairs(l ...string) [][2]int {
	var result [][2]int
	for _, s := range l {
		result = append(result, [2]int{int(s[0] - 'a'), int(s[1] - 'a')})
	}
	return result
}

// about writes what plays a part.
func about(x api.Instance, r api.Route) string {
	var s strings.Builder
	for _, t := range x.Types {
		fmt.Fprintf(&s, "%v ", t.Cap)
	}
	for i, o := range x.Orders {
		fmt.Fprintf(&s, "%c %d %d %v off %v; ", 'a'+i, o.Pick.Place, o.Drop.Place, o.Load, o.Off)
	}
	return fmt.Sprintf("%sapart %v before %v type %d %v", s.String(), x.Apart, x.Before, r.Type, r.Visits)
}

// anyInts returns ints of all sizes.
func anyInts() []int {
	return []int{math.MinInt, math.MinInt + 1, -1 << 32, -64, -63, -2, -1, 0, 1, 2, 3, 7, 9, 10, 11, 61, 62, 63, 64, 65, 127, 128, 1000, 1001, 1 << 32, 1<<32 + 1, 1 << 62, math.MaxInt - 1, math.MaxInt}
}

func oneOf[T any](r *rand.Rand, l ...T) T { return l[r.Intn(len(l))] }

// route returns a route of a type, whose other fields play no part.
func route(number int, s string) api.Route {
	return api.Route{Type: number, Start: math.MaxInt, Rests: []bool{true, false, true}, Visits: visits(s)}
}

func wantValid(t *testing.T, x api.Instance) {
	t.Helper()
	if faults := instance.Check(x); len(faults) > 0 {
		t.Errorf("%s has %d faults; the first one is %+v", about(x, api.Route{}), len(faults), faults[0])
	}
}

func wantLoads(t *testing.T, x api.Instance, s string, want ...string) {
	t.Helper()
	wantValid(t, x)
	for _, number := range anyInts() {
		r := route(number, s)
		if got, err := carry.Loads(x, r); err != api.OK || show(got...) != strings.Join(want, ", ") {
			t.Errorf("%s: Loads = %s, %d; want %s", about(x, r), show(got...), err, want)
		}
	}
}

func wantMost(t *testing.T, x api.Instance, s, want string) {
	t.Helper()
	wantValid(t, x)
	for _, number := range anyInts() {
		r := route(number, s)
		if got, err := carry.Most(x, r); err != api.OK || show(got) != want {
			t.Errorf("%s: Most = %s, %d; want %s", about(x, r), show(got), err, want)
		}
	}
}

func wantRoom(t *testing.T, x api.Instance, r api.Route, want string) {
	t.Helper()
	wantValid(t, x)
	if got, err := carry.Room(x, r); err != api.OK || show(got) != want {
		t.Errorf("%s: Room = %s, %d; want %s", about(x, r), show(got), err, want)
	}
}

func wantFits(t *testing.T, x api.Instance, want api.Errno, l ...string) {
	t.Helper()
	for _, s := range l {
		wantFitsType(t, x, route(0, s), want)
	}
}

// wantFitsType expects the same error of Fits and of Room.
func wantFitsType(t *testing.T, x api.Instance, r api.Route, want api.Errno) {
	t.Helper()
	wantValid(t, x)
	if got := carry.Fits(x, r); got != want {
		t.Errorf("%s: Fits = %d; want %d", about(x, r), got, want)
	}
	if room, err := carry.Room(x, r); err != want || err != api.OK && len(room) > 0 {
		t.Errorf("%s: Room = %v, %d; want the error %d", about(x, r), room, err, want)
	}
}

// wantRefused expects the same error of Loads and of Most.
func wantRefused(t *testing.T, x api.Instance, r api.Route, want api.Errno) {
	t.Helper()
	if l, err := carry.Loads(x, r); err != want || len(l) > 0 {
		t.Errorf("%s: Loads = %v, %d; want the error %d", about(x, r), l, err, want)
	}
	if l, err := carry.Most(x, r); err != want || len(l) > 0 {
		t.Errorf("%s: Most = %v, %d; want the error %d", about(x, r), l, err, want)
	}
}

// answers are the results of all functions.
type answers struct {
	Loads      [][]int
	Most, Room []int
	Errors     [4]api.Errno
}

func answersOf(x api.Instance, r api.Route) answers {
	var a answers
	a.Loads, a.Errors[0] = carry.Loads(x, r)
	a.Errors[1] = carry.Fits(x, r)
	a.Most, a.Errors[2] = carry.Most(x, r)
	a.Room, a.Errors[3] = carry.Room(x, r)
	return a
}

// wantModel compares all functions with their models.
func wantModel(t *testing.T, x api.Instance, r api.Route) {
	t.Helper()
	if got, want := answersOf(x, r), modelOf(x, r); !reflect.DeepEqual(got, want) {
		t.Errorf("%s: %+v; want %+v", about(x, r), got, want)
	}
}

// drawn returns a valid instance with so many orders.
func drawn(r *rand.Rand, orders int) api.Instance {
	dims := 1 + r.Intn(api.MaxDims)
	greatest := oneOf(r, 1, 5, 100, api.MaxLoad)
	list := func() string {
		s := ""
		for range dims {
			s += " " + strconv.Itoa(oneOf(r, 0, greatest, r.Intn(greatest+1), r.Intn(greatest+1)))
		}
		return s
	}
	var capacities, l []string
	for range 1 + r.Intn(api.MaxTypes) {
		capacities = append(capacities, list())
	}
	likely := oneOf(r, "b", "bpd", "bbpd", "pd", "p", "d")
	for range orders {
		l = append(l, string(oneOf(r, []byte(likely)...))+list())
	}
	x := town(strings.Join(capacities, ","), l...)
	for i := range x.Orders {
		x.Orders[i].Off = r.Intn(20) == 0
	}
	x.Apart, x.Before = drawnPairs(r, orders, 2), drawnPairs(r, orders, 4)
	return x
}

// drawnPairs returns some pairs of different orders, no two of the same ones.
func drawnPairs(r *rand.Rand, orders, most int) [][2]int {
	var l [][2]int
	for range r.Intn(most + 1) {
		a, b := r.Intn(orders), r.Intn(orders)
		if a != b && !slices.Contains(l, [2]int{a, b}) && !slices.Contains(l, [2]int{b, a}) {
			l = append(l, [2]int{a, b})
		}
	}
	return l
}

// drawnRoute returns a route for some of the orders, which pairs can make impossible, of a type that can be missing.
func drawnRoute(r *rand.Rand, x api.Instance) api.Route {
	set := oneOf(r, 1<<len(x.Orders)-1, r.Intn(1<<len(x.Orders)))
	var l []api.Visit
	for next := sequence.Next(x, set, nil); len(next) > 0; next = sequence.Next(x, set, l) {
		l = append(l, oneOf(r, next...))
	}
	return api.Route{Type: r.Intn(len(x.Types)+2) - 1, Start: r.Intn(9), Visits: l}
}

// damage changes the visits of a route so that it is refused, most times.
func damage(r *rand.Rand, x api.Instance, l []api.Visit) []api.Visit {
	at := r.Intn(len(l) + 1)
	v := api.Visit{Order: r.Intn(len(x.Orders)+2) - 1, Drop: r.Intn(2) == 0}
	switch {
	case at == len(l) || r.Intn(3) == 0:
		return slices.Insert(l, at, v)
	case r.Intn(2) == 0:
		return slices.Delete(l, at, at+1)
	}
	other := r.Intn(len(l))
	l[at], l[other] = l[other], l[at]
	return l
}

// tighten makes the capacity of the type of a route so great, in all dimensions, as the load needs it, and by so many more or less in some of them.
func tighten(r *rand.Rand, x *api.Instance, one api.Route, off ...int) {
	if one.Type < 0 || one.Type >= len(x.Types) || sequence.Check(*x, one) != api.OK {
		return
	}
	most := mostOf(loadsOf(*x, one.Visits))
	for d := range most {
		most[d] = max(0, min(most[d]+oneOf(r, off...), api.MaxLoad))
	}
	x.Types[one.Type].Cap = most
}
