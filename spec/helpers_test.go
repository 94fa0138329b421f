package spec_test

import (
	"math/rand"
	"reflect"
	"strconv"
	"strings"
	"testing"

	"lorry/api"
	"lorry/instance"
	"lorry/spec"
)

// pairs is a list of pairs of orders.
type pairs = [][2]int

// gone is a stop that is none.
func gone() api.Stop { return api.Stop{Place: -1} }

// town returns an instance with several things of each kind, and with different numbers wherever it can have them.
func town() api.Instance {
	return api.Instance{
		Net: api.Network{
			Places: []string{"hub", "ash_2", "Oak"},
			Arcs: []api.Arc{
				{From: 0, To: 1, Profile: 2, Miles: 3, Travel: []api.Point{{T: 4, A: 10}, {T: 20, A: 40}}, Slow: []api.Point{{T: 5, A: 6}, {T: 7, A: 8}}},
				{From: 1, To: 0, Profile: 2, Miles: 15, Travel: []api.Point{{T: 0, A: 0}}},
				{From: 2, To: 1, Profile: 7, Miles: 10000, Travel: []api.Point{{T: 16, A: 17}}, Slow: []api.Point{{T: 18, A: 19}}},
			},
		},
		Types: []api.Type{
			{Name: "van", Count: 2, From: 0, To: 1, Cap: []int{9, 4}, Skills: 3, Profile: 6, Open: 11, Close: 400, Drive: 100, Rest: 30, Fixed: 70, PerMile: 5, PerTick: 8},
			{Name: "bike", Count: 1, From: 2, To: 0, Cap: []int{8, 12}, Skills: 0, Profile: 7, Open: 0, Close: 4096, Drive: 4095, Rest: 1, Fixed: 100000, PerMile: 100, PerTick: 99},
		},
		Orders: []api.Order{
			{Name: "a", Load: []int{3, 1}, Pick: gone(), Drop: api.Stop{Place: 1, Open: 10, Close: 20, Service: 5}, Skills: 1, Penalty: -1, Split: 2, Last: -1, Now: 0},
			{Name: "b", Load: []int{2, 0}, Pick: api.Stop{Place: 0, Open: 6, Close: 90, Service: 7}, Drop: api.Stop{Place: 2, Open: 8, Close: 95, Service: 9}, Skills: 12, Penalty: 50, Split: 1, Last: 0, Now: -1, Off: true},
			{Name: "c", Load: []int{0, 7}, Pick: api.Stop{Place: 2, Open: 13, Close: 14, Service: 6}, Drop: gone(), Skills: 4, Penalty: 1000000, Split: 3, Last: 1, Now: 0},
		},
		Apart:  pairs{{0, 1}, {2, 0}},
		Before: pairs{{0, 1}, {2, 1}, {1, 0}},
	}
}

// townText is the text of the town.
const townText = `place hub
place ash_2
place Oak
arc 0 1 2 3 4:10,20:40 5:6,7:8
arc 1 0 2 15 0:0 .
arc 2 1 7 10000 16:17 18:19
type van 2 0 1 9,4 3 6 11 400 100 30 70 5 8
type bike 1 2 0 8,12 0 7 0 4096 4095 1 100000 100 99
order a 3,1 . 1:10:20:5 1 -1 2 -1 0 on
order b 2,0 0:6:90:7 2:8:95:9 12 50 1 0 -1 off
order c 0,7 2:13:14:6 . 4 1000000 3 1 0 on
apart 0 1
apart 2 0
before 0 1
before 2 1
before 1 0
end
`

// with returns a town in which something is changed.
func with(change func(x *api.Instance)) api.Instance {
	x := town()
	change(&x)
	return x
}

// linesOf returns the lines of a text without their line feeds.
func linesOf(s string) []string { return strings.Split(strings.TrimSuffix(s, "\n"), "\n") }

// joined returns the text of lines.
func joined(lines ...string) string {
	var b strings.Builder
	for _, l := range lines {
		b.WriteString(l + "\n")
	}
	return b.String()
}

// withLine returns the text in which a line (from 1 on) is another one, or several others.
func withLine(s string, line int, others ...string) string {
	l := linesOf(s)
	return joined(l[:line-1]...) + joined(others...) + joined(l[line:]...)
}

// equal reports whether two instances have the same fields, where nil and empty lists are the same.
func equal(a, b api.Instance) bool { return reflect.DeepEqual(cloned(a), cloned(b)) }

func wantPrinted(t *testing.T, x api.Instance, want string) {
	t.Helper()
	if s, err := spec.Print(x); s != want || err != api.OK {
		t.Errorf("Print of %+v = %q, %d; want %q", x, s, err, want)
	}
}

func wantNotPrinted(t *testing.T, x api.Instance, want api.Errno) {
	t.Helper()
	if s, err := spec.Print(x); s != "" || err != want {
		t.Errorf("Print of %+v = %q, %d; want the error %d", x, s, err, want)
	}
}

func wantParsed(t *testing.T, s string, want api.Instance) {
	t.Helper()
	if x, line, err := spec.Parse(s); err != api.OK || line != 0 || !equal(x, want) {
		t.Errorf("Parse(%q) = %+v, %d, %d; want %+v", s, x, line, err, want)
	}
}

// wantRefused checks an error, with which there is no instance.
func wantRefused(t *testing.T, s string, line int, want api.Errno) {
	t.Helper()
	if x, n, err := spec.Parse(s); err != want || n != line || !reflect.DeepEqual(x, api.Instance{}) {
		t.Errorf("Parse(%q) = %+v, %d, %d; want the error %d in line %d", s, x, n, err, want, line)
	}
}

// firstFault returns the code of the first violation, or OK.
func firstFault(x api.Instance) api.Errno {
	if faults := instance.Check(x); len(faults) > 0 {
		return faults[0].Err
	}
	return api.OK
}

func oneOf[T any](r *rand.Rand, l ...T) T { return l[r.Intn(len(l))] }

// drawn returns a valid instance.
func drawn(r *rand.Rand) api.Instance {
	x := api.Instance{Net: drawnNetwork(r)}
	dims := 1 + r.Intn(3)
	for i := range 1 + r.Intn(6) {
		x.Types = append(x.Types, drawnType(r, "v"+strconv.Itoa(i), len(x.Net.Places), dims))
	}
	for i := range r.Intn(11) {
		x.Orders = append(x.Orders, drawnOrder(r, "o"+strconv.Itoa(i), len(x.Net.Places), dims, len(x.Types)))
	}
	x.Apart, x.Before = drawnPairs(r, len(x.Orders), false), drawnPairs(r, len(x.Orders), true)
	return x
}

func drawnNetwork(r *rand.Rand) api.Network {
	var n api.Network
	for i := range 1 + r.Intn(5) {
		n.Places = append(n.Places, oneOf(r, "p", "Place_", "_")+strconv.Itoa(i))
	}
	for from := range n.Places {
		for to := range n.Places {
			if from != to && r.Intn(3) > 0 {
				n.Arcs = append(n.Arcs, api.Arc{From: from, To: to, Profile: r.Intn(8), Miles: r.Intn(10001), Travel: drawnPoints(r, 1+r.Intn(16), true), Slow: drawnPoints(r, r.Intn(17), false)})
			}
		}
	}
	return n
}

// drawnPoints returns points of a travel function, or of delays.
func drawnPoints(r *rand.Rand, count int, travel bool) []api.Point {
	var l []api.Point
	for i := range count {
		p := api.Point{T: 200*i + r.Intn(200), A: r.Intn(4097)}
		if travel {
			p.A = 200*i + 200 + r.Intn(200)
		}
		l = append(l, p)
	}
	return l
}

func drawnLoad(r *rand.Rand, dims int) []int {
	l := make([]int, dims)
	for d := range l {
		l[d] = r.Intn(1001)
	}
	return l
}

func drawnType(r *rand.Rand, name string, places, dims int) api.Type {
	v := api.Type{Name: name, Count: r.Intn(11), From: r.Intn(places), To: r.Intn(places), Cap: drawnLoad(r, dims), Skills: r.Intn(1 << 30), Profile: r.Intn(8), Close: r.Intn(4097), Drive: 1 + r.Intn(4096), Rest: r.Intn(4097), Fixed: r.Intn(100001), PerMile: r.Intn(101), PerTick: r.Intn(101)}
	v.Open = r.Intn(v.Close + 1)
	return v
}

func drawnOrder(r *rand.Rand, name string, places, dims, types int) api.Order {
	stop := func() api.Stop {
		end := r.Intn(4097)
		return api.Stop{Place: r.Intn(places), Open: r.Intn(end + 1), Close: end, Service: r.Intn(4097)}
	}
	o := api.Order{Name: name, Load: drawnLoad(r, dims), Pick: stop(), Drop: stop(), Skills: r.Intn(1 << 30), Penalty: oneOf(r, -1, 0, r.Intn(1000001)), Split: 1, Last: r.Intn(types+1) - 1, Now: r.Intn(types+1) - 1, Off: r.Intn(4) == 0}
	switch r.Intn(3) {
	case 0:
		o.Pick, o.Split = gone(), 1+r.Intn(4)
	case 1:
		o.Drop, o.Split = gone(), 1+r.Intn(4)
	}
	return o
}

// drawnPairs returns right pairs in any order; both is whether a pair may be there with its numbers exchanged.
func drawnPairs(r *rand.Rand, orders int, both bool) pairs {
	var l pairs
	for b := range orders {
		for a := range b {
			p, exchanged := [2]int{a, b}, [2]int{b, a}
			if both {
				l = append(l, p, exchanged)
			} else {
				l = append(l, oneOf(r, p, exchanged))
			}
		}
	}
	r.Shuffle(len(l), func(i, k int) { l[i], l[k] = l[k], l[i] })
	return l[:min(len(l), r.Intn(17))]
}
