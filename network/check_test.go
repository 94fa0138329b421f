package network_test

import (
	"math"
	"math/rand"
	"slices"
	"strconv"
	"strings"
	"testing"

	"lorry/api"
	"lorry/network"
	"lorry/text"
	"lorry/travel"
)

func wantFaults(t *testing.T, n api.Network, want ...api.Fault) {
	t.Helper()
	if got := network.Check(n); !slices.Equal(got, want) {
		t.Errorf("Check of %d places and %d arcs, %v = %v; want %v", len(n.Places), len(n.Arcs), n, got, want)
	}
}

// at returns faults with the same path.
func at(path string, errs ...api.Errno) []api.Fault {
	var l []api.Fault
	for _, err := range errs {
		l = append(l, api.Fault{Err: err, At: path})
	}
	return l
}

// wantArc checks a network with three places in which the arc 1 is replaced.
func wantArc(t *testing.T, a api.Arc, errs ...api.Errno) {
	t.Helper()
	n := example()
	n.Arcs[1] = a
	wantFaults(t, n, at("arc 1", errs...)...)
}

// P9.1
func TestCheckAcceptsNetworks(t *testing.T) {
	wantFaults(t, example())
	wantFaults(t, api.Network{})
	wantFaults(t, api.Network{Places: []string{}, Arcs: []api.Arc{}})
	wantFaults(t, api.Network{Places: []string{"A"}})
	wantFaults(t, api.Network{Places: []string{"a", "A", "_", "Sixteen_letters_", "p1", "p"}})
	r := rand.New(rand.NewSource(91))
	for range 300 {
		wantFaults(t, drawn(r, 9))
	}
}

// P9.1: the limit of places.
func TestCheckCountsThePlaces(t *testing.T) {
	for count := range 60 {
		n := api.Network{Places: names(count)}
		if count <= 24 {
			wantFaults(t, n)
		} else {
			wantFaults(t, n, at("places", api.ErrSize)...)
		}
	}
	// A place behind the limit is a place all the same.
	wantFaults(t, api.Network{Places: names(25), Arcs: []api.Arc{arc(24, 0, 1), arc(0, 24, 1), arc(0, 25, 1)}}, append(at("places", api.ErrSize), at("arc 2", api.ErrPlace)...)...)
}

// P9.1: what is no name is not there twice.
func TestCheckLooksAtTheNamesOfPlaces(t *testing.T) {
	for _, wrong := range []string{"", " ", "b c", "1a", "7", "a-b", "\x00", "ä", "seventeen_letters", strings.Repeat("x", 70000)} {
		wantFaults(t, api.Network{Places: []string{wrong}}, at("place 0", api.ErrName)...)
		wantFaults(t, api.Network{Places: []string{"A", wrong, "B"}}, at("place 1", api.ErrName)...)
		wantFaults(t, api.Network{Places: []string{"A", wrong, wrong, "A", wrong}}, slices.Concat(at("place 1", api.ErrName), at("place 2", api.ErrName), at("place 3", api.ErrTwice), at("place 4", api.ErrName))...)
	}
	wantFaults(t, api.Network{Places: []string{"A", "A"}}, at("place 1", api.ErrTwice)...)
	wantFaults(t, api.Network{Places: []string{"A", "B", "A", "B", "A"}}, slices.Concat(at("place 2", api.ErrTwice), at("place 3", api.ErrTwice), at("place 4", api.ErrTwice))...)
	wantFaults(t, api.Network{Places: []string{"A", "a", "A_", "_A", "A0"}})
}

// P9.1: each place at its number, also at one of several digits.
func TestCheckNumbersThePlaces(t *testing.T) {
	for i := range 24 {
		n := api.Network{Places: names(24)}
		n.Places[i] = "-"
		wantFaults(t, n, at("place "+strconv.Itoa(i), api.ErrName)...)
		if i > 0 {
			n.Places[i] = "p0"
			wantFaults(t, n, at("place "+strconv.Itoa(i), api.ErrTwice)...)
		}
	}
	n := api.Network{Places: append(names(130), "p129")}
	wantFaults(t, n, append(at("places", api.ErrSize), at("place 130", api.ErrTwice)...)...)
}

// P9.1: the limit of arcs.
func TestCheckCountsTheArcs(t *testing.T) {
	for _, count := range []int{0, 1, 552, 553, 1023, 1024} {
		wantFaults(t, api.Network{Places: names(24), Arcs: ways(24, count)})
	}
	for _, count := range []int{1025, 1026, 3000} {
		wantFaults(t, api.Network{Places: names(24), Arcs: ways(24, count)}, at("arcs", api.ErrSize)...)
	}
	n := api.Network{Places: names(24), Arcs: ways(24, 1025)}
	n.Arcs[1024].Miles, n.Arcs[1023].Travel = -1, nil
	wantFaults(t, n, slices.Concat(at("arcs", api.ErrSize), at("arc 1023", api.ErrSize), at("arc 1024", api.ErrArg))...)
}

// P9.1: From and To must be places, and different ones.
func TestCheckLooksAtTheEndsOfArcs(t *testing.T) {
	for _, wrong := range []int{-1, 3, 4, 24, math.MinInt, math.MaxInt, 1 << 32} {
		wantArc(t, arc(wrong, 0, 5), api.ErrPlace)
		wantArc(t, arc(1, wrong, 5), api.ErrPlace)
		wantArc(t, arc(wrong, -2, 5), api.ErrPlace)
		wantArc(t, arc(wrong, wrong, 5), api.ErrPlace, api.ErrArg)
	}
	for from := range 3 {
		for to := range 3 {
			n := api.Network{Places: names(3), Arcs: []api.Arc{arc(from, to, 5)}}
			if from == to {
				wantFaults(t, n, at("arc 0", api.ErrArg)...)
			} else {
				wantFaults(t, n)
			}
		}
	}
	wantFaults(t, api.Network{Arcs: []api.Arc{arc(0, 1, 5)}}, at("arc 0", api.ErrPlace)...)
	wantFaults(t, api.Network{Places: names(1), Arcs: []api.Arc{arc(0, 0, 5)}}, at("arc 0", api.ErrArg)...)
}

// P9.1: the limits of Profile and Miles, which are one rule.
func TestCheckHasTheLimitsOfProfileAndMiles(t *testing.T) {
	a := arc(1, 2, 5)
	for _, profile := range []int{0, 1, 6, 7} {
		for _, miles := range []int{0, 1, 9999, 10000} {
			a.Profile, a.Miles = profile, miles
			wantArc(t, a)
		}
	}
	for _, wrong := range []int{-1, 10001, math.MinInt, math.MaxInt, 1 << 32} {
		a.Profile, a.Miles = 3, wrong
		wantArc(t, a, api.ErrArg)
		a.Profile, a.Miles = wrong, 0
		wantArc(t, a, api.ErrArg)
		a.Miles = wrong
		wantArc(t, a, api.ErrArg)
	}
	a.Profile, a.Miles = 8, 8
	wantArc(t, a, api.ErrArg)
	a.Profile, a.From = -1, 2
	wantArc(t, a, api.ErrArg)
}

// P9.1: an arc is there already if From, To and Profile are those of an earlier one, right or not.
func TestCheckComparesArcsWithEarlierOnes(t *testing.T) {
	a := arc(0, 1, 5)
	for _, b := range []api.Arc{
		{From: 0, To: 2}, {From: 2, To: 1}, {From: 1, To: 0}, {From: 0, To: 1, Profile: 1}, {From: 0, To: 1, Profile: 7},
	} {
		b.Travel = a.Travel
		wantFaults(t, api.Network{Places: names(3), Arcs: []api.Arc{a, b}})
		wantFaults(t, api.Network{Places: names(3), Arcs: []api.Arc{a, b, a, b, b}}, slices.Concat(at("arc 2", api.ErrTwice), at("arc 3", api.ErrTwice), at("arc 4", api.ErrTwice))...)
	}
	other := api.Arc{From: 0, To: 1, Miles: 8, Travel: points(3, 9, 4, 10), Slow: points(1, 1)}
	wantFaults(t, api.Network{Places: names(2), Arcs: []api.Arc{a, other}}, at("arc 1", api.ErrTwice)...)
	wrong := api.Arc{From: 9, To: 9, Profile: -3, Travel: a.Travel}
	wantFaults(t, api.Network{Places: names(2), Arcs: []api.Arc{wrong, wrong}}, append(at("arc 0", api.ErrPlace, api.ErrArg), at("arc 1", api.ErrPlace, api.ErrArg, api.ErrTwice)...)...)
}

// P9.1: the errors of the travel function are those of the arc.
func TestCheckReturnsTheErrorsOfTravel(t *testing.T) {
	for _, c := range []struct {
		travel []api.Point
		errs   []api.Errno
	}{
		{nil, []api.Errno{api.ErrSize}},
		{[]api.Point{}, []api.Errno{api.ErrSize}},
		{points(-1, 5), []api.Errno{api.ErrArg}},
		{points(5, 4), []api.Errno{api.ErrArg}},
		{points(0, 4097), []api.Errno{api.ErrArg}},
		{points(4097, 4098), []api.Errno{api.ErrArg}},
		{points(0, 5, 0, 5), []api.Errno{api.ErrFifo}},
		{points(0, 5, 4, 4), []api.Errno{api.ErrFifo}},
		{points(0, 5, 7, 6), []api.Errno{api.ErrArg}},
		{points(-1, 9, 7, 6, 6, 6), []api.Errno{api.ErrArg, api.ErrArg, api.ErrFifo, api.ErrFifo}},
		{points(0, 5, 4, 4, 5, 3), []api.Errno{api.ErrFifo, api.ErrArg, api.ErrFifo}},
		{make([]api.Point, 17), append([]api.Errno{api.ErrSize}, slices.Repeat([]api.Errno{api.ErrFifo}, 16)...)},
	} {
		wantArc(t, api.Arc{From: 1, To: 2, Travel: c.travel}, c.errs...)
	}
	row := make([]api.Point, 17)
	for i := range row {
		row[i] = api.Point{T: i, A: i + 5}
	}
	wantArc(t, api.Arc{From: 1, To: 2, Travel: row[:16]})
	wantArc(t, api.Arc{From: 1, To: 2, Travel: row}, api.ErrSize)
}

// wantSlow checks an arc with these points of Slow.
func wantSlow(t *testing.T, l []api.Point, errs ...api.Errno) {
	t.Helper()
	wantArc(t, api.Arc{From: 1, To: 2, Travel: points(0, 5), Slow: l}, errs...)
}

// P9.1: the number and the limits of the points of Slow.
func TestCheckHasTheLimitsOfSlow(t *testing.T) {
	for count := range 30 {
		if count <= 16 {
			wantSlow(t, slow(count))
		} else {
			wantSlow(t, slow(count), api.ErrSize)
		}
	}
	limits := []int{0, 1, 4095, 4096}
	for _, x := range limits {
		for _, y := range limits {
			wantSlow(t, points(x, y))
		}
		for _, wrong := range []int{-1, 4097, math.MinInt, math.MaxInt, 1 << 32} {
			wantSlow(t, points(x, wrong), api.ErrArg)
			wantSlow(t, points(wrong, x), api.ErrArg)
			wantSlow(t, points(wrong, wrong), api.ErrArg)
		}
	}
}

// P9.1: each T is greater than the one before, and each point has at most one fault.
func TestCheckComparesThePointsOfSlow(t *testing.T) {
	wantSlow(t, points(4, 3, 5, 0, 6, 4096, 4096, 1))
	wantSlow(t, points(0, 0, 1, 0, 4095, 0, 4096, 0))
	wantSlow(t, points(4, 3, 4, 3), api.ErrArg)
	wantSlow(t, points(4, 3, 4, 4), api.ErrArg)
	wantSlow(t, points(4, 3, 3, 4), api.ErrArg)
	wantSlow(t, points(4, 3, 3, 4, 4, 5), api.ErrArg)
	wantSlow(t, points(4, 3, 3, 4, 3, 5), api.ErrArg, api.ErrArg)
	wantSlow(t, points(4, 3, 4, -1, 5, 1), api.ErrArg)
	wantSlow(t, points(4, -1, 4, 4097, -1, -1, 0, 0, 0, 1), api.ErrArg, api.ErrArg, api.ErrArg, api.ErrArg)
	wantSlow(t, points(-1, 0, 0, 0), api.ErrArg)
	wantSlow(t, points(4097, 0, 4096, 0), api.ErrArg, api.ErrArg)
	wantSlow(t, make([]api.Point, 18), append([]api.Errno{api.ErrSize}, slices.Repeat([]api.Errno{api.ErrArg}, 17)...)...)
}

// P9.1, R3: several faults in their order.
func TestCheckReturnsAllFaultsInOrder(t *testing.T) {
	all := api.Arc{From: 3, To: 3, Profile: 8, Miles: -1, Travel: points(-1, 9, 7, 6), Slow: append(slow(16), api.Point{T: 30, A: 9})}
	wantArc(t, all, api.ErrPlace, api.ErrArg, api.ErrArg, api.ErrArg, api.ErrFifo, api.ErrSize, api.ErrArg)
	n := api.Network{Places: append(names(24), "p3", "x y", "x y", "p3"), Arcs: ways(24, 1025)}
	n.Arcs[0], n.Arcs[7], n.Arcs[8] = all, all, arc(0, 28, 5)
	n.Arcs[0].From = 28
	n.Arcs[9].Slow = points(1, -1)
	n.Arcs[10].Travel = nil
	n.Arcs[11].Profile = 9
	wantFaults(t, n, slices.Concat(
		at("places", api.ErrSize), at("place 24", api.ErrTwice), at("place 25", api.ErrName), at("place 26", api.ErrName), at("place 27", api.ErrTwice), at("arcs", api.ErrSize),
		at("arc 0", api.ErrPlace, api.ErrArg, api.ErrArg, api.ErrArg, api.ErrFifo, api.ErrSize, api.ErrArg),
		at("arc 7", api.ErrArg, api.ErrArg, api.ErrArg, api.ErrFifo, api.ErrSize, api.ErrArg),
		at("arc 8", api.ErrPlace), at("arc 9", api.ErrArg), at("arc 10", api.ErrSize), at("arc 11", api.ErrArg))...)
}

// isOutside reports whether a number is less than 0 or greater than most.
func isOutside(x, most int) bool {
	return x != min(max(x, 0), most)
}

// expectedOfArc follows the rules of the chapter for one arc.
func expectedOfArc(n api.Network, i int) []api.Errno {
	var errs []api.Errno
	add := func(wrong bool, err api.Errno) {
		if wrong {
			errs = append(errs, err)
		}
	}
	a, last := n.Arcs[i], len(n.Places)-1
	add(last < 0 || isOutside(a.From, last) || isOutside(a.To, last), api.ErrPlace)
	add(isOutside(a.Profile, 7) || isOutside(a.Miles, 10000) || a.From == a.To, api.ErrArg)
	add(slices.ContainsFunc(n.Arcs[:i], func(b api.Arc) bool { return [3]int{a.From, a.To, a.Profile} == [3]int{b.From, b.To, b.Profile} }), api.ErrTwice)
	for _, f := range travel.Check(a.Travel) {
		add(true, f.Err)
	}
	add(isOutside(len(a.Slow), 16), api.ErrSize)
	before := math.MinInt
	for _, p := range a.Slow {
		add(isOutside(p.T, 4096) || isOutside(p.A, 4096) || before >= p.T, api.ErrArg)
		before = p.T
	}
	return errs
}

// expected follows the rules of the chapter one by one.
func expected(n api.Network) []api.Fault {
	var faults []api.Fault
	if isOutside(len(n.Places), 24) {
		faults = at("places", api.ErrSize)
	}
	for i, name := range n.Places {
		path := "place " + strconv.Itoa(i)
		if !text.Name(name) {
			faults = append(faults, at(path, api.ErrName)...)
		} else if slices.Contains(n.Places[:i], name) {
			faults = append(faults, at(path, api.ErrTwice)...)
		}
	}
	if isOutside(len(n.Arcs), 1024) {
		faults = append(faults, at("arcs", api.ErrSize)...)
	}
	for i := range n.Arcs {
		faults = append(faults, at("arc "+strconv.Itoa(i), expectedOfArc(n, i)...)...)
	}
	return faults
}

// changed replaces some names and numbers of a network by others.
func changed(r *rand.Rand, n api.Network) api.Network {
	numbers := []int{math.MinInt, -1, 0, 1, 2, 3, 7, 8, 4096, 4097, 10000, 10001, math.MaxInt}
	draw := func() int { return numbers[r.Intn(len(numbers))] }
	for range 1 + r.Intn(4) {
		n.Places[r.Intn(len(n.Places))] = []string{"p0", "p1", "q", "", "1x"}[r.Intn(5)]
		if len(n.Arcs) == 0 {
			continue
		}
		a := &n.Arcs[r.Intn(len(n.Arcs))]
		switch field := r.Intn(8); field {
		case 0, 1, 2, 3:
			*[]*int{&a.From, &a.To, &a.Profile, &a.Miles}[field] = draw()
		case 4:
			a.Travel = append(a.Travel, api.Point{T: draw(), A: draw()})
		case 5:
			a.Slow = append(a.Slow, api.Point{T: draw(), A: draw()})
		case 6:
			a.Travel = a.Travel[:r.Intn(len(a.Travel)+1)]
		case 7:
			*a = n.Arcs[r.Intn(len(n.Arcs))]
		}
	}
	return n
}

// P9.1: for any networks.
func TestCheckFollowsItsRules(t *testing.T) {
	r := rand.New(rand.NewSource(92))
	for range 4000 {
		n := changed(r, drawn(r, 6))
		wantFaults(t, n, expected(n)...)
	}
}
