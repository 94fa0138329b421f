package network_test

import (
	"math"
	"math/rand"
	"slices"
	"testing"

	"lorry/api"
	"lorry/network"
)

func wantSlower(t *testing.T, n api.Network, from, to, tick, ticks int, want api.Network, wantErr api.Errno) {
	t.Helper()
	got, err := network.Slower(n, from, to, tick, ticks)
	if err != wantErr || !sameNetwork(got, want) {
		t.Errorf("Slower(%v, %d, %d, %d, %d) = %v, %d; want %v, %d", n, from, to, tick, ticks, got, err, want, wantErr)
	}
}

// wantPoints delays a single arc that has these points of Slow.
func wantPoints(t *testing.T, before []api.Point, tick, ticks int, after []api.Point) {
	t.Helper()
	n, want := example(), example()
	n.Arcs[1].Slow, want.Arcs[1].Slow = before, after
	wantSlower(t, n, 1, 2, tick, ticks, want, api.OK)
}

// wantRefused delays a single arc that has these points of Slow.
func wantRefused(t *testing.T, before []api.Point, tick, ticks int, want api.Errno) {
	t.Helper()
	n := example()
	n.Arcs[1].Slow = before
	wantSlower(t, n, 1, 2, tick, ticks, api.Network{}, want)
}

// P9.4
func TestSlowerAddsAPoint(t *testing.T) {
	for _, tick := range []int{0, 1, 13, 4095, 4096} {
		for _, ticks := range []int{0, 1, 4, 4095, 4096} {
			wantPoints(t, nil, tick, ticks, points(tick, ticks))
			wantPoints(t, []api.Point{}, tick, ticks, points(tick, ticks))
		}
	}
	wantPoints(t, points(12, 9), 13, 4, points(12, 9, 13, 4))
	wantPoints(t, points(12, 4096), 13, 4096, points(12, 4096, 13, 4096))
	wantPoints(t, points(0, 0), 1, 0, points(0, 0, 1, 0))
	wantPoints(t, points(4095, 7), 4096, 0, points(4095, 7, 4096, 0))
	wantPoints(t, points(3, 5, 7, 2), 900, 6, points(3, 5, 7, 2, 900, 6))
}

// P9.4
func TestSlowerIncreasesTheLastPoint(t *testing.T) {
	wantPoints(t, points(13, 4), 13, 1, points(13, 5))
	wantPoints(t, points(13, 4), 13, 0, points(13, 4))
	wantPoints(t, points(13, 0), 13, 4096, points(13, 4096))
	wantPoints(t, points(13, 4096), 13, 0, points(13, 4096))
	wantPoints(t, points(13, 4), 13, 4092, points(13, 4096))
	wantPoints(t, points(0, 4095), 0, 1, points(0, 4096))
	wantPoints(t, points(4096, 1), 4096, 4095, points(4096, 4096))
	wantPoints(t, points(3, 4096, 7, 2), 7, 4094, points(3, 4096, 7, 4096))
	wantRefused(t, points(13, 4), 13, 4093, api.ErrArg)
	wantRefused(t, points(13, 4), 13, 4096, api.ErrArg)
	wantRefused(t, points(13, 4096), 13, 1, api.ErrArg)
	wantRefused(t, points(13, 4096), 13, 4096, api.ErrArg)
	wantRefused(t, points(3, 0, 7, 4096), 7, 1, api.ErrArg)
}

// P9.4: delays come one after the other.
func TestSlowerRefusesEarlierTicks(t *testing.T) {
	for _, ticks := range []int{0, 1, 4096} {
		wantRefused(t, points(13, 0), 12, ticks, api.ErrArg)
		wantRefused(t, points(13, 4096), 0, ticks, api.ErrArg)
		wantRefused(t, points(3, 1, 13, 1), 3, ticks, api.ErrArg)
		wantRefused(t, points(3, 1, 13, 1), 4, ticks, api.ErrArg)
		wantRefused(t, points(4096, 1), 4095, ticks, api.ErrArg)
	}
}

// P9.4: the limit of points; the last one can still be increased.
func TestSlowerHasAtMostMaxPoints(t *testing.T) {
	wantPoints(t, slow(14), 100, 3, append(slow(14), api.Point{T: 100, A: 3}))
	wantPoints(t, slow(15), 100, 3, append(slow(15), api.Point{T: 100, A: 3}))
	wantRefused(t, slow(16), 100, 3, api.ErrSize)
	wantRefused(t, slow(16), 31, 0, api.ErrSize)
	wantRefused(t, slow(16), 4096, 4096, api.ErrSize)
	wantRefused(t, slow(16), 29, 3, api.ErrArg)
	more := slow(16)
	more[15].A += 3
	wantPoints(t, slow(16), 30, 3, more)
	wantRefused(t, slow(16), 30, 4096, api.ErrArg)
}

// P9.4, R2: ErrPlace, then ErrArg, then ErrArc.
func TestSlowerReturnsTheErrorThatIsNamedFirst(t *testing.T) {
	n := example()
	n.Arcs[1].Slow = slow(16)
	for _, x := range append(anyInts(), 3, 4) {
		for _, tick := range []int{-1, 0, 4097} {
			wantSlower(t, n, x, 2, tick, 4, api.Network{}, api.ErrPlace)
			wantSlower(t, n, 1, x, 4, tick, api.Network{}, api.ErrPlace)
			wantSlower(t, n, x, x, tick, tick, api.Network{}, api.ErrPlace)
		}
	}
	for _, x := range []int{-1, -4096, 4097, 1 << 32, math.MinInt, math.MaxInt} {
		for _, end := range [][2]int{{1, 2}, {2, 1}, {0, 0}} {
			wantSlower(t, n, end[0], end[1], x, 4, api.Network{}, api.ErrArg)
			wantSlower(t, n, end[0], end[1], 4, x, api.Network{}, api.ErrArg)
			wantSlower(t, n, end[0], end[1], x, x, api.Network{}, api.ErrArg)
		}
	}
	for _, tick := range []int{0, 4, 4096} {
		for _, end := range [][2]int{{1, 0}, {2, 0}, {2, 1}, {0, 0}, {1, 1}, {2, 2}} {
			wantSlower(t, n, end[0], end[1], tick, tick, api.Network{}, api.ErrArc)
		}
	}
	wantSlower(t, api.Network{}, 0, 0, 0, 0, api.Network{}, api.ErrPlace)
	wantSlower(t, api.Network{Places: names(2)}, 0, 1, 0, 0, api.Network{}, api.ErrArc)
}

// several returns a network with arcs of three profiles from the place 0 to the place 1, and others around them.
func several() api.Network {
	n := api.Network{Places: names(3)}
	for profile, to := range []int{2, 1, 1, 2, 1} {
		n.Arcs = append(n.Arcs, api.Arc{From: to, To: 0, Travel: points(0, 6), Profile: profile}, api.Arc{From: 0, To: to, Profile: profile, Miles: profile, Travel: points(0, 5, 7, 20)})
	}
	return n
}

// P9.4: arcs of all profiles, and no others.
func TestSlowerDelaysAllProfiles(t *testing.T) {
	n, want := several(), several()
	n.Arcs[3].Slow, want.Arcs[3].Slow = points(8, 1), points(8, 1, 9, 4)
	n.Arcs[5].Slow, want.Arcs[5].Slow = points(9, 1), points(9, 5)
	n.Arcs[0].Slow, want.Arcs[0].Slow = points(10, 1), points(10, 1)
	n.Arcs[1].Slow, want.Arcs[1].Slow = slow(16), slow(16)
	want.Arcs[9].Slow = points(9, 4)
	wantSlower(t, n, 0, 1, 9, 4, want, api.OK)
}

// P9.4: the error is that of the first arc that has one.
func TestSlowerReturnsTheErrorOfTheFirstArc(t *testing.T) {
	early, much, full := points(41, 1), points(40, 4093), slow(16)
	for _, c := range []struct {
		first, second, third []api.Point
		want                 api.Errno
	}{
		{early, nil, nil, api.ErrArg}, {nil, early, nil, api.ErrArg}, {nil, nil, early, api.ErrArg},
		{much, nil, nil, api.ErrArg}, {nil, much, nil, api.ErrArg}, {nil, nil, much, api.ErrArg},
		{full, nil, nil, api.ErrSize}, {nil, full, nil, api.ErrSize}, {nil, nil, full, api.ErrSize},
		{early, full, nil, api.ErrArg}, {full, early, nil, api.ErrSize}, {nil, full, early, api.ErrSize}, {nil, early, full, api.ErrArg},
		{full, much, early, api.ErrSize}, {much, full, full, api.ErrArg}, {nil, much, full, api.ErrArg}, {full, full, full, api.ErrSize},
	} {
		n := several()
		n.Arcs[3].Slow, n.Arcs[5].Slow, n.Arcs[9].Slow = c.first, c.second, c.third
		wantFaults(t, n)
		wantSlower(t, n, 0, 1, 40, 4, api.Network{}, c.want)
	}
}

// checkDelayed compares all arrivals over an arc with those of the arc before it was delayed.
func checkDelayed(t *testing.T, before, after api.Network, a api.Arc, tick, ticks int) {
	t.Helper()
	for _, departure := range append(departures(after), max(0, tick-1), tick, tick+1) {
		old, _, _ := network.Go(before, a.Profile, a.From, a.To, departure)
		if departure >= tick {
			old += ticks
		}
		wantGo(t, after, a.Profile, a.From, a.To, departure, old, a.Miles, api.OK)
	}
}

// lastTick returns the greatest T of Slow of the arcs between two places; most of them are 0.
func lastTick(n api.Network, from, to int) int {
	last := 0
	for _, a := range n.Arcs {
		if a.From == from && a.To == to && len(a.Slow) > 0 {
			last = max(last, a.Slow[len(a.Slow)-1].T)
		}
	}
	return last
}

// P9.6
func TestDelaysAreExact(t *testing.T) {
	r := rand.New(rand.NewSource(99))
	delayed := 0
	for range 300 {
		n := drawn(r, 4)
		if len(n.Arcs) == 0 {
			continue
		}
		one := n.Arcs[r.Intn(len(n.Arcs))]
		tick := min(api.MaxTime, lastTick(n, one.From, one.To)+r.Intn(3)*r.Intn(40))
		ticks := []int{0, 1, r.Intn(100), api.MaxTime}[r.Intn(4)]
		after, err := network.Slower(n, one.From, one.To, tick, ticks)
		if err != api.OK {
			continue
		}
		delayed++
		wantFaults(t, after)
		for i, a := range n.Arcs {
			if a.From == one.From && a.To == one.To {
				checkDelayed(t, n, after, a, tick, ticks)
				after.Arcs[i].Slow = a.Slow
			}
		}
		if !sameNetwork(n, after) {
			t.Errorf("Slower(%v, %d, %d) changed more: %v", n, one.From, one.To, after)
		}
	}
	if delayed < 100 {
		t.Errorf("only %d networks were delayed", delayed)
	}
}

// P9.6: many delays of one arc, each for the departures behind it.
func TestDelaysAddUp(t *testing.T) {
	n := example()
	for i := range 16 {
		for range 2 {
			slower, err := network.Slower(n, 1, 2, 10*i, 1+i)
			if err != api.OK {
				t.Fatal(err)
			}
			n = slower
		}
	}
	sum := 0
	for departure := range 300 {
		if departure%10 == 0 && departure < 160 {
			sum += 2 * (1 + departure/10)
		}
		wantGo(t, n, 0, 1, 2, departure, departure+5+sum, 0, api.OK)
	}
	if len(n.Arcs[1].Slow) != 16 || !slices.Equal(n.Arcs[1].Slow[:2], points(0, 2, 10, 4)) {
		t.Error(n.Arcs[1].Slow)
	}
	wantSlower(t, n, 1, 2, 151, 1, api.Network{}, api.ErrSize)
}
