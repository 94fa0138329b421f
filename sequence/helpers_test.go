package sequence_test

import (
	"fmt"
	"iter"
	"math"
	"math/rand"
	"slices"
	"strings"
	"testing"
	"unicode"

	"lorry/api"
	"lorry/instance"
	"lorry/sequence"
)

// visits reads visits: a is the pickup of the order 0, A its delivery, b the pickup of the order 1, and so on.
func visits(s string) []api.Visit {
	var l []api.Visit
	for _, letter := range s {
		l = append(l, api.Visit{Order: int(unicode.ToLower(letter) - 'a'), Drop: unicode.IsUpper(letter)})
	}
	return l
}

// show writes visits as they are read, or with their numbers.
func show(l []api.Visit) string {
	var s strings.Builder
	for _, v := range l {
		switch {
		case v.Order < 0 || v.Order > 25:
			return fmt.Sprint(l)
		case v.Drop:
			s.WriteRune('A' + rune(v.Order))
		default:
			s.WriteRune('a' + rune(v.Order))
		}
	}
	return s.String()
}

// pairs reads pairs of orders: ab is the pair of the orders 0 and 1.
func pairs(l ...string) [][2]int {
	var result [][2]int
	for _, s := range l {
		result = append(result, [2]int{int(s[0] - 'a'), int(s[1] - 'a')})
	}
	return result
}

// setOf reads a set of orders.
func setOf(s string) int {
	set := 0
	for _, letter := range s {
		set += 1 << (letter - 'a')
	}
	return set
}

// town returns an instance with an order for each letter: one with both places (b), with a pickup alone (p), or with a delivery alone (d).
func town(kinds string) api.Instance {
	x := api.Instance{
		Net:   api.Network{Places: []string{"hub", "shop"}, Arcs: []api.Arc{{From: 0, To: 1, Travel: []api.Point{{T: 0, A: 5}}}}},
		Types: []api.Type{{Name: "van", Count: 1, Cap: []int{5}, Close: 100, Drive: 50}},
	}
	for i, kind := range kinds {
		o := api.Order{Name: string(rune('a' + i)), Load: []int{1}, Pick: api.Stop{Place: 1, Close: 50}, Drop: api.Stop{Close: 50}, Split: 1, Last: -1, Now: -1}
		switch kind {
		case 'p':
			o.Drop = api.Stop{Place: -1}
		case 'd':
			o.Pick = api.Stop{Place: -1}
		}
		x.Orders = append(x.Orders, o)
	}
	return x
}

// apart and before return an instance with other pairs, off one with some orders cancelled.
func apart(x api.Instance, l ...string) api.Instance {
	x.Apart = pairs(l...)
	return x
}

func before(x api.Instance, l ...string) api.Instance {
	x.Before = pairs(l...)
	return x
}

func off(x api.Instance, orders string) api.Instance {
	x.Orders = slices.Clone(x.Orders)
	for i := range members(setOf(orders)) {
		x.Orders[i].Off = true
	}
	return x
}

// members traverses the numbers from 0 to 62 whose bits are set.
func members(set int) iter.Seq[int] {
	return func(yield func(int) bool) {
		for i := range 63 {
			if set&(1<<i) != 0 && !yield(i) {
				return
			}
		}
	}
}

// about writes what plays a part.
func about(x api.Instance) string {
	var s strings.Builder
	for i, o := range x.Orders {
		fmt.Fprintf(&s, "%s%s ", show(visitsOf(x, i)), map[bool]string{true: "(off)"}[o.Off])
	}
	return fmt.Sprintf("%sapart %v before %v", s.String(), x.Apart, x.Before)
}

// anyInts returns ints of all sizes.
func anyInts() []int {
	return []int{math.MinInt, math.MinInt + 1, -1 << 32, -64, -63, -2, -1, 0, 1, 2, 3, 7, 9, 10, 11, 61, 62, 63, 64, 65, 127, 128, 1000, 1 << 32, 1<<32 + 1, 1 << 62, math.MaxInt - 1, math.MaxInt}
}

func oneOf[T any](r *rand.Rand, l ...T) T { return l[r.Intn(len(l))] }

// route returns a route whose other fields play no part.
func route(l []api.Visit) api.Route {
	return api.Route{Type: -7, Start: math.MaxInt, Rests: []bool{true, false, true}, Visits: l}
}

func wantValid(t *testing.T, x api.Instance) {
	t.Helper()
	if faults := instance.Check(x); len(faults) > 0 {
		t.Errorf("%s has %d faults; the first one is %+v", about(x), len(faults), faults[0])
	}
}

func wantVisits(t *testing.T, x api.Instance, l []api.Visit, want api.Errno) {
	t.Helper()
	if got := sequence.Check(x, route(l)); got != want {
		t.Errorf("%s: Check of %s = %d; want %d", about(x), show(l), got, want)
	}
}

func wantCheck(t *testing.T, x api.Instance, want api.Errno, l ...string) {
	t.Helper()
	wantValid(t, x)
	for _, s := range l {
		wantVisits(t, x, visits(s), want)
	}
}

// all returns what All returns without an error.
func all(t *testing.T, x api.Instance, set int) [][]api.Visit {
	t.Helper()
	l, err := sequence.All(x, set)
	if err != api.OK {
		t.Fatalf("%s: All of %b has the error %d", about(x), set, err)
	}
	return l
}

func wantSequences(t *testing.T, x api.Instance, set int, want [][]api.Visit) {
	t.Helper()
	if got := all(t, x, set); !slices.EqualFunc(got, want, slices.Equal[[]api.Visit]) {
		t.Errorf("%s: All of %b = %v; want %v", about(x), set, shown(got), shown(want))
	}
}

func shown(l [][]api.Visit) []string {
	var texts []string
	for _, one := range l[:min(len(l), 100)] {
		texts = append(texts, show(one))
	}
	return texts
}

func wantAll(t *testing.T, x api.Instance, orders string, want ...string) {
	t.Helper()
	wantValid(t, x)
	var l [][]api.Visit
	for _, s := range want {
		l = append(l, visits(s))
	}
	wantSequences(t, x, setOf(orders), l)
}

func wantCount(t *testing.T, x api.Instance, orders string, want int) {
	t.Helper()
	wantValid(t, x)
	if got := all(t, x, setOf(orders)); len(got) != want {
		t.Errorf("%s: All of %s has %d sequences; want %d", about(x), orders, len(got), want)
	}
}

func wantNotAll(t *testing.T, x api.Instance, want api.Errno, sets ...int) {
	t.Helper()
	for _, set := range sets {
		if l, err := sequence.All(x, set); err != want || len(l) != 0 {
			t.Errorf("%s: All of %b = %v, %d; want the error %d", about(x), set, shown(l), err, want)
		}
	}
}

func wantNextOf(t *testing.T, x api.Instance, set int, l, want []api.Visit) {
	t.Helper()
	if got := sequence.Next(x, set, l); !slices.Equal(got, want) {
		t.Errorf("%s: Next of %b and %s = %s; want %s", about(x), set, show(l), show(got), show(want))
	}
}

func wantNext(t *testing.T, x api.Instance, orders, l, want string) {
	t.Helper()
	wantValid(t, x)
	wantNextOf(t, x, setOf(orders), visits(l), visits(want))
}

// drawn returns a valid instance with so many orders.
func drawn(r *rand.Rand, orders int) api.Instance {
	kinds := make([]byte, orders)
	likely := oneOf(r, "b", "bpd", "bbpd", "pd")
	for i := range kinds {
		kinds[i] = oneOf(r, []byte(likely)...)
	}
	x := town(string(kinds))
	for i := range x.Orders {
		x.Orders[i].Off = r.Intn(12) == 0
	}
	x.Apart = some(r, eachPair(orders, false), oneOf(r, 0, 2, 16))
	x.Before = some(r, eachPair(orders, r.Intn(4) == 0), oneOf(r, 0, 3, 16))
	for _, l := range [][][2]int{x.Apart, x.Before} {
		number := r.Perm(orders)
		for i, p := range l {
			l[i] = [2]int{number[p[0]], number[p[1]]}
		}
	}
	return x
}

// eachPair returns the pairs of orders, the lesser one first, and also exchanged if circles are wanted.
func eachPair(orders int, circles bool) [][2]int {
	var l [][2]int
	for b := range orders {
		for a := range b {
			l = append(l, [2]int{a, b})
			if circles {
				l = append(l, [2]int{b, a})
			}
		}
	}
	return l
}

// some returns some of the pairs in any order, as many as allowed at most.
func some(r *rand.Rand, l [][2]int, most int) [][2]int {
	r.Shuffle(len(l), func(i, k int) { l[i], l[k] = l[k], l[i] })
	return l[:r.Intn(min(len(l), most)+1)]
}

// chosen returns the elements whose bits are set.
func chosen[T any](l []T, bits int) []T {
	var some []T
	for i, one := range l {
		if bits>>i%2 == 1 {
			some = append(some, one)
		}
	}
	return some
}

// smallInstances traverses instances with 3 orders: of each kind, some cancelled, and with the pairs in any case.
func smallInstances() iter.Seq[api.Instance] {
	return func(yield func(api.Instance) bool) {
		for code := range 27 << 9 {
			kinds, bits := code%27, code/27
			x := town(string([]byte{"bpd"[kinds%3], "bpd"[kinds/3%3], "bpd"[kinds/9]}))
			x.Orders[2].Off = bits&1 == 1
			x.Apart = chosen(pairs("ab", "cb"), bits>>1)
			x.Before = chosen(pairs("ab", "bc", "ac", "ba", "ca", "cb"), bits>>3)
			if !yield(x) {
				return
			}
		}
	}
}
