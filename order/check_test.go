package order_test

import (
	"math"
	"math/rand"
	"slices"
	"strconv"
	"strings"
	"testing"

	"lorry/api"
	"lorry/order"
)

// P11.1
func TestCheckHasItsExample(t *testing.T) {
	o := api.Order{Pick: gone(), Drop: gone(), Load: []int{1, 1}, Split: 1, Last: -1, Now: -1}
	usual().want(t, []api.Order{o}, at(0, api.ErrName, api.ErrPair))
	usual().want(t, []api.Order{parcel("a", 1, 1), o}, at(1, api.ErrName, api.ErrPair))
}

// P11.1
func TestCheckAcceptsOrders(t *testing.T) {
	usual().want(t, nil)
	usual().want(t, []api.Order{})
	setting{}.want(t, nil)
	setting{places: 9, dims: -1, types: -1}.want(t, nil)
	usual().want(t, parcels(10))
	r := rand.New(rand.NewSource(111))
	for range 300 {
		s := setting{places: 1 + r.Intn(24), dims: 1 + r.Intn(3), types: r.Intn(7)}
		s.want(t, drawn(r, s))
	}
}

// P11.1: the limit of orders; those behind it are checked, too, also at numbers of several digits.
func TestCheckCountsTheOrders(t *testing.T) {
	for count := range 30 {
		l, over := parcels(count), []api.Fault(nil)
		if count > 10 {
			over = size()
		}
		usual().want(t, l, over)
		for i := range l {
			one := cloned(l)
			one[i].Skills = -1
			usual().want(t, one, over, at(i, api.ErrSkill))
		}
	}
	usual().want(t, append(parcels(130), parcel("o129", 5, 8), parcel("o0", 5)), size(), at(130, api.ErrTwice), at(131, api.ErrTwice, api.ErrLoad))
}

// P11.1
func TestCheckLooksAtNames(t *testing.T) {
	for _, name := range []string{"a", "Z", "_", "parcel_2", "Sixteen_letters_"} {
		usual().wantOrder(t, parcel(name, 5, 7))
	}
	for _, wrong := range []string{"", " ", "a b", "2x", "7", "a-b", "\x00", "ä", "order\n", "seventeen_letters", strings.Repeat("x", 70000)} {
		usual().wantOrder(t, parcel(wrong, 5, 7), api.ErrName)
		usual().want(t, []api.Order{parcel(wrong, 5, 7), parcel("a", 5, 7), parcel(wrong, 5, 7), parcel(wrong, 5, 7)}, at(0, api.ErrName), at(2, api.ErrName, api.ErrTwice), at(3, api.ErrName, api.ErrTwice))
	}
}

// P11.1
func TestCheckComparesNames(t *testing.T) {
	var l []api.Order
	for _, name := range []string{"a", "b", "A", "a", "a_", "a"} {
		l = append(l, parcel(name, 5, 7))
	}
	usual().want(t, l, at(3, api.ErrTwice), at(5, api.ErrTwice))
	for i := range 10 {
		for k := range i {
			l := parcels(10)
			l[i].Name = l[k].Name
			usual().want(t, l, at(i, api.ErrTwice))
			// It does not matter whether the earlier order is right, or cancelled.
			l[k].Skills, l[k].Off = -1, true
			usual().want(t, l, at(k, api.ErrSkill), at(i, api.ErrTwice))
		}
	}
}

// P11.1: a load has dims numbers, whatever dims is.
func TestCheckCountsTheDimensions(t *testing.T) {
	for dims := -2; dims < 7; dims++ {
		for numbers := range 7 {
			var errs []api.Errno
			if numbers != dims {
				errs = append(errs, api.ErrLoad)
			}
			setting{places: 1, dims: dims}.wantOrder(t, parcel("a", make([]int, numbers)...), errs...)
		}
	}
	for _, dims := range []int{math.MinInt, math.MinInt + 1, -1 << 32, 1 << 32, 1<<32 + 1, math.MaxInt} {
		for numbers := range 3 {
			setting{places: 1, dims: dims}.wantOrder(t, parcel("a", make([]int, numbers)...), api.ErrLoad)
		}
	}
	nothing := with(func(o *api.Order) { o.Load = []int{} })
	setting{places: 1}.wantOrder(t, nothing)
	setting{places: 1, dims: 1}.wantOrder(t, nothing, api.ErrLoad)
}

// P11.1: each number of a load is looked at, and the rule has one fault for an order.
func TestCheckLooksAtEachNumberOfALoad(t *testing.T) {
	for dims := 1; dims <= 4; dims++ {
		s := setting{places: 1, dims: dims}
		for _, x := range []int{math.MinInt, -1 << 32, -1000, -1, 0, 1, 999, 1000, 1001, 1 << 32, math.MaxInt} {
			var errs []api.Errno
			if x < 0 || x > 1000 {
				errs = append(errs, api.ErrLoad)
			}
			for set := 1; set < 1<<dims; set++ {
				o := parcel("a", slices.Repeat([]int{set}, dims)...)
				for d := range dims {
					if set>>d&1 == 1 {
						o.Load[d] = x
					}
				}
				s.wantOrder(t, o, errs...)
			}
		}
	}
}

// P11.1: the places are those of the network, however many there are.
func TestCheckKnowsThePlaces(t *testing.T) {
	for count := range 30 {
		s := setting{places: count, dims: 2}
		values := append(anyInts(), -3, count-1, count, count+1)
		for _, pick := range values {
			for _, drop := range values {
				o := between(pick, drop)
				if pick == -1 {
					o.Pick = gone()
				}
				if drop == -1 {
					o.Drop = gone()
				}
				s.want(t, []api.Order{o}, at(0, placeErrors(count, pick, drop)...))
			}
		}
	}
}

// placeErrors follows the rules for the places of an order whose windows are right where it has places.
func placeErrors(count, pick, drop int) []api.Errno {
	var errs []api.Errno
	if pick < -1 || pick >= count || drop < -1 || drop >= count {
		errs = append(errs, api.ErrPlace)
	}
	if pick == -1 && drop == -1 {
		errs = append(errs, api.ErrPair)
	}
	if pick < -1 || drop < -1 {
		errs = append(errs, api.ErrWindow)
	}
	return errs
}

// P11.1: the network is used only for the number of its places.
func TestCheckCountsOnlyThePlaces(t *testing.T) {
	r := rand.New(rand.NewSource(112))
	for range 300 {
		s := setting{places: 1 + r.Intn(4), dims: 1 + r.Intn(3), types: r.Intn(3)}
		l := changed(r, drawn(r, s))
		n := api.Network{Places: make([]string, s.places), Arcs: []api.Arc{{From: -1, To: 9, Profile: 8}, {}, {}}}
		if got := order.Check(n, s.dims, s.types, l); !slices.Equal(got, s.check(l)) {
			t.Errorf("%v in one network, %v in another one", got, s.check(l))
		}
	}
}

// isWindow reports whether a window and a service are right, as the chapter of windows has it.
func isWindow(open, end, service int) bool {
	ticks := func(x int) bool { return x == min(max(x, 0), 4096) }
	return ticks(open) && ticks(end) && ticks(service) && !(end < open)
}

// P11.1: Pick, Drop and both, with numbers at the limits.
func TestCheckLooksAtTheWindows(t *testing.T) {
	edges := []int{math.MinInt, -1, 0, 1, 4095, 4096, 4097, math.MaxInt}
	for _, open := range edges {
		for _, end := range edges {
			for _, service := range edges {
				s := api.Stop{Place: 1, Open: open, Close: end, Service: service}
				var errs []api.Errno
				if !isWindow(open, end, service) {
					errs = append(errs, api.ErrWindow)
				}
				wantStops(t, s, errs...)
				s.Place = -1
				if open == 0 && end == 0 && service == 0 {
					wantStops(t, s)
				} else {
					wantStops(t, s, api.ErrWindow)
				}
			}
		}
	}
}

// wantStops checks orders with a stop as the pickup, as the delivery, and, if it has a place, as both; the other stop is right.
func wantStops(t *testing.T, s api.Stop, errs ...api.Errno) {
	t.Helper()
	usual().wantOrder(t, with(func(o *api.Order) { o.Pick = s }), errs...)
	usual().wantOrder(t, with(func(o *api.Order) { o.Drop = s }), errs...)
	if s.Place == -1 {
		errs = append([]api.Errno{api.ErrPair}, errs...)
	} else {
		usual().wantOrder(t, with(func(o *api.Order) { o.Pick, o.Drop = s, gone() }), errs...)
		usual().wantOrder(t, with(func(o *api.Order) { o.Pick, o.Drop = gone(), s }), errs...)
	}
	usual().wantOrder(t, with(func(o *api.Order) { o.Pick, o.Drop = s, s }), errs...)
}

// P11.1
func TestEachNumberHasItsLimits(t *testing.T) {
	for _, f := range []struct {
		name        string
		of          func(o *api.Order) *int
		least, most int
		err         api.Errno
	}{
		{"Skills", func(o *api.Order) *int { return &o.Skills }, 0, 1073741823, api.ErrSkill},
		{"Penalty", func(o *api.Order) *int { return &o.Penalty }, -1, 1000000, api.ErrArg},
		{"Split", func(o *api.Order) *int { return &o.Split }, 1, 4, api.ErrArg},
		{"Last", func(o *api.Order) *int { return &o.Last }, -1, 4, api.ErrArg},
		{"Now", func(o *api.Order) *int { return &o.Now }, -1, 4, api.ErrArg},
	} {
		check := func(x int, errs ...api.Errno) {
			o := with(func(o *api.Order) { o.Pick = gone() })
			*f.of(&o) = x
			setting{places: 1, dims: 2, types: 5}.wantOrder(t, o, errs...)
			if t.Failed() {
				t.Fatalf("%s of %d", f.name, x)
			}
		}
		for _, x := range []int{f.least, f.least + 1, f.least + 2, f.most - 1, f.most} {
			check(x)
		}
		for _, x := range []int{f.least - 1, f.least - 2, f.most + 1, f.most + 2, -f.most - 1, -1 << 32, 1<<32 + f.most, math.MinInt, math.MinInt + f.most, math.MaxInt} {
			check(x, f.err)
		}
	}
}

// P11.1: only an order with one place can be divided.
func TestCheckLooksAtSplits(t *testing.T) {
	for split := -2; split < 8; split++ {
		var whole, divided []api.Errno
		if split != 1 {
			whole = append(whole, api.ErrArg)
		}
		if split < 1 || split > 4 {
			divided = append(divided, api.ErrArg)
		}
		check := func(pick, drop api.Stop, errs ...api.Errno) {
			t.Helper()
			usual().wantOrder(t, with(func(o *api.Order) { o.Pick, o.Drop, o.Split = pick, drop, split }), errs...)
		}
		check(stop(0), stop(1), whole...)
		check(stop(1), stop(1), whole...)
		check(stop(1), gone(), divided...)
		check(gone(), stop(1), divided...)
		check(gone(), gone(), append([]api.Errno{api.ErrPair}, divided...)...)
		// A Place that is none of the network is not -1 either.
		check(stop(1), stop(9), append([]api.Errno{api.ErrPlace}, whole...)...)
		check(stop(-2), stop(1), append([]api.Errno{api.ErrPlace, api.ErrWindow}, whole...)...)
		check(stop(-2), gone(), append([]api.Errno{api.ErrPlace, api.ErrWindow}, divided...)...)
	}
}

// P11.1: Last and Now are types, or -1, if -1 is one of the numbers at all.
func TestCheckKnowsTheTypes(t *testing.T) {
	for _, types := range append(anyInts(), 6, 7) {
		for _, x := range append(anyInts(), types, max(types, 0)-1, min(types, math.MaxInt-1)+1) {
			var errs []api.Errno
			// The numbers are compared with types itself, because the least int has none before it.
			if x < -1 || types <= x {
				errs = append(errs, api.ErrArg)
			}
			s := setting{places: 1, dims: 2, types: types}
			s.wantOrder(t, with(func(o *api.Order) { o.Last = x }), errs...)
			s.wantOrder(t, with(func(o *api.Order) { o.Now = x }), errs...)
			s.wantOrder(t, with(func(o *api.Order) { o.Last, o.Now = x, x }), errs...)
		}
	}
}

// P11.1: Penalty, Split, Last and Now are one rule.
func TestCheckHasOneFaultForTheArguments(t *testing.T) {
	for set := range 16 {
		o := parcel("a", 5, 7)
		for i, x := range []*int{&o.Penalty, &o.Split, &o.Last, &o.Now} {
			if set>>i&1 == 1 {
				*x = []int{-2, 5, 2, -2}[i]
			}
		}
		if set == 0 {
			usual().wantOrder(t, o)
		} else {
			usual().wantOrder(t, o, api.ErrArg)
		}
	}
}

// P11.1: cancelled orders are checked as others are.
func TestCheckLooksAtCancelledOrders(t *testing.T) {
	r := rand.New(rand.NewSource(113))
	for range 300 {
		l := changed(r, drawn(r, usual()))
		off := cloned(l)
		for i := range off {
			off[i].Off = !off[i].Off
		}
		usual().want(t, off, usual().check(l))
	}
}

// allWrong returns an order with all faults that one alone can have, except ErrPair.
func allWrong() api.Order {
	return api.Order{Name: "2x", Load: []int{-1, 1001}, Pick: api.Stop{Place: -2}, Drop: api.Stop{Place: 3, Open: 5, Close: 4, Service: -1}, Skills: -1, Penalty: -2, Last: 2, Now: -2}
}

// P11.1, R3
func TestCheckReturnsAllFaultsInOrder(t *testing.T) {
	alone := []api.Errno{api.ErrName, api.ErrLoad, api.ErrPlace, api.ErrWindow, api.ErrSkill, api.ErrArg}
	usual().wantOrder(t, allWrong(), alone...)
	nowhere := allWrong()
	nowhere.Pick.Place, nowhere.Drop.Place = -1, -1
	usual().wantOrder(t, nowhere, api.ErrName, api.ErrLoad, api.ErrPair, api.ErrWindow, api.ErrSkill, api.ErrArg)
	l := parcels(12)
	l[1], l[3], l[11] = allWrong(), allWrong(), allWrong()
	l[2].Name, l[2].Penalty = "o0", 1000001
	l[4].Now, l[4].Skills = 2, 1<<30
	l[5].Load, l[5].Drop = nil, gone()
	l[6].Drop.Place, l[6].Split = 3, 0
	l[10].Drop.Close, l[10].Load = 9, []int{0, 1001}
	usual().want(t, l, size(), at(1, alone...), at(2, api.ErrTwice, api.ErrArg), at(3, twice(alone)...), at(4, api.ErrSkill, api.ErrArg), at(5, api.ErrLoad, api.ErrPair), at(6, api.ErrPlace, api.ErrArg), at(10, api.ErrLoad, api.ErrWindow), at(11, twice(alone)...))
}

// isFrom reports whether a number is not less than least, and not greater than most.
func isFrom(least, x, most int) bool {
	return least <= most && x == min(max(x, least), most)
}

// isStop reports the same of a stop.
func isStop(s api.Stop) bool {
	if s.Place == -1 {
		return s.Open == 0 && s.Close == 0 && s.Service == 0
	}
	return s.Place >= 0 && isWindow(s.Open, s.Close, s.Service)
}

// isName reports whether a name is one of those that helpers_test.go draws and the chapter of names accepts.
func isName(name string) bool {
	return name == "w" || strings.HasPrefix(name, "o")
}

// expected follows the rules of the chapter for one order.
func (s setting) expected(l []api.Order, i int) []api.Errno {
	var errs []api.Errno
	require := func(right bool, err api.Errno) {
		if !right {
			errs = append(errs, err)
		}
	}
	o := l[i]
	pick, drop := o.Pick.Place, o.Drop.Place
	require(isName(o.Name), api.ErrName)
	require(slices.IndexFunc(l, func(other api.Order) bool { return other.Name == o.Name }) == i, api.ErrTwice)
	wrong := slices.ContainsFunc(o.Load, func(x int) bool { return !isFrom(0, x, 1000) })
	require(len(o.Load) == s.dims && !wrong, api.ErrLoad)
	require(isFrom(-1, pick, s.places-1) && isFrom(-1, drop, s.places-1), api.ErrPlace)
	require(!(pick == -1 && drop == -1), api.ErrPair)
	require(isStop(o.Pick) && isStop(o.Drop), api.ErrWindow)
	require(isFrom(0, o.Skills, 1<<30-1), api.ErrSkill)
	most := 4
	if pick != -1 && drop != -1 {
		most = 1
	}
	require(isFrom(-1, o.Penalty, 1000000) && isFrom(1, o.Split, most) && isFrom(-1, o.Last, s.types-1) && isFrom(-1, o.Now, s.types-1), api.ErrArg)
	return errs
}

// P11.1: for any orders.
func TestCheckFollowsItsRules(t *testing.T) {
	r := rand.New(rand.NewSource(114))
	accepted := 0
	for range 20000 {
		s := setting{places: 1 + r.Intn(3), dims: r.Intn(4), types: r.Intn(4)}
		l := changed(r, drawn(r, s))
		s.places, s.dims, s.types = s.places-r.Intn(2), s.dims-r.Intn(2), s.types-r.Intn(2)
		var want []api.Fault
		for i := range l {
			want = append(want, at(i, s.expected(l, i)...)...)
		}
		s.want(t, l, want)
		if len(want) == 0 {
			accepted++
		}
	}
	if accepted < 200 {
		t.Errorf("only %d lists were accepted", accepted)
	}
}

// P11.1: other orders matter only by the names of the earlier ones.
func TestOtherOrdersMatterOnlyByNames(t *testing.T) {
	r := rand.New(rand.NewSource(115))
	faultsOf := func(l []api.Order, index int) []api.Fault {
		return slices.DeleteFunc(usual().check(l), func(f api.Fault) bool { return f.At != strconv.Itoa(index) })
	}
	for range 5000 {
		l := changed(r, drawn(r, usual()))
		i := r.Intn(len(l))
		other := slices.Concat(cloned(l[:i+1]), changed(r, drawn(r, usual())))
		for k := range i {
			other[k] = allWrong()
			other[k].Name = l[k].Name
		}
		if want, got := faultsOf(l, i), faultsOf(other, i); !slices.Equal(got, want) {
			t.Errorf("the order %d of %+v has %v; of %+v %v", i, l, want, other, got)
		}
	}
}
