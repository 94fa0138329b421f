package sequence_test

import (
	"math"
	"math/rand"
	"slices"
	"testing"

	"lorry/api"
	"lorry/sequence"
)

// P16.2
func TestNextOfNoVisits(t *testing.T) {
	wantNext(t, town("b"), "a", "", "a")
	wantNext(t, town("p"), "a", "", "a")
	wantNext(t, town("d"), "a", "", "A")
	wantNext(t, town("bpdbpdbpdb"), "abcdefghij", "", "abCdeFghIj")
	wantNext(t, town("bpdb"), "bd", "", "bd")
	wantNext(t, town("bpdb"), "", "", "")
	wantNext(t, town(""), "", "", "")
	wantNextOf(t, town("bpd"), 7, []api.Visit{}, visits("abC"))
}

// P16.2
func TestNextAfterVisits(t *testing.T) {
	x := town("bb")
	wantNext(t, x, "ab", "a", "Ab")
	wantNext(t, x, "ab", "b", "aB")
	wantNext(t, x, "ab", "ba", "AB")
	wantNext(t, x, "ab", "aA", "b")
	wantNext(t, x, "ab", "aAb", "B")
	wantNext(t, x, "a", "a", "A")
	x = town("pdb")
	wantNext(t, x, "abc", "a", "Bc")
	wantNext(t, x, "abc", "B", "ac")
	wantNext(t, x, "abc", "c", "aBC")
	wantNext(t, x, "abc", "cB", "aC")
	wantNext(t, x, "ac", "a", "c")
}

// P16.2
func TestNextOfAllVisits(t *testing.T) {
	wantNext(t, town("bpd"), "abc", "aAbC", "")
	wantNext(t, town("bpd"), "abc", "CbaA", "")
	wantNext(t, town("bpd"), "ab", "aAb", "")
	wantNext(t, town("bbbbbbbbbb"), "abcdefghij", "abcdefghijABCDEFGHIJ", "")
	wantNext(t, town("bbbbbbbbbb"), "abcdefghij", "abcdefghijABCDEFGHI", "J")
}

// P16.2: only whether a visit is there plays a part, not where and how often, and not whether it may be there.
func TestNextAfterWrongVisits(t *testing.T) {
	x := town("bpd")
	// Visits of orders that are not in the set.
	wantNext(t, x, "a", "bC", "a")
	wantNext(t, x, "bc", "a", "bC")
	wantNext(t, x, "bc", "aAb", "C")
	wantNext(t, x, "", "aAbC", "")
	// Visits that occur twice.
	wantNext(t, x, "abc", "aa", "AbC")
	wantNext(t, x, "abc", "bbbb", "aC")
	wantNext(t, x, "abc", "aAaAbb", "C")
	// A delivery whose pickup is missing, or comes later.
	wantNext(t, x, "abc", "A", "abC")
	wantNext(t, x, "abc", "Aa", "bC")
	// Visits that their orders do not have.
	wantNext(t, x, "abc", "B", "abC")
	wantNext(t, x, "abc", "c", "abC")
	wantNext(t, x, "abc", "cB", "abC")
	// Visits of orders that do not exist.
	wantNext(t, x, "abc", "dDzZ", "abC")
	for _, number := range anyInts() {
		if number < 0 || number > 2 {
			wantNextOf(t, x, 7, []api.Visit{{Order: number}, {Order: 0}, {Order: number, Drop: true}, {Order: number}}, visits("AbC"))
		}
	}
}

// P16.2
func TestNextOfCancelledOrders(t *testing.T) {
	x := off(town("bpd"), "b")
	wantNext(t, x, "abc", "", "aC")
	wantNext(t, x, "b", "", "")
	wantNext(t, x, "abc", "ab", "AC")
	x = off(town("bb"), "a")
	wantNext(t, x, "ab", "a", "b")
	wantNext(t, off(x, "ab"), "ab", "", "")
}

// P16.2: orders wait for all visits of those that they need, also for orders that are not in the set, or cancelled.
func TestNextOfPairsOfBefore(t *testing.T) {
	x := before(town("bbb"), "ca")
	wantNext(t, x, "abc", "", "bc")
	wantNext(t, x, "abc", "c", "bC")
	wantNext(t, x, "abc", "C", "bc")
	wantNext(t, x, "abc", "cC", "ab")
	wantNext(t, x, "abc", "cCa", "Ab")
	wantNext(t, x, "abc", "acb", "BC")
	wantNext(t, x, "abc", "aC", "bc")
	wantNext(t, x, "a", "", "")
	wantNext(t, x, "ab", "", "b")
	wantNext(t, x, "ab", "cC", "ab")
	wantNext(t, x, "ab", "cCaAB", "b")
	wantNext(t, off(x, "c"), "abc", "", "b")
	wantNext(t, off(x, "c"), "abc", "cC", "ab")
	// Several orders that one needs, of which each has one visit.
	x = before(town("dpp"), "ac", "bc")
	wantNext(t, x, "abc", "", "Ab")
	wantNext(t, x, "abc", "A", "b")
	wantNext(t, x, "abc", "b", "A")
	wantNext(t, x, "abc", "bA", "c")
	wantNext(t, x, "c", "aB", "")
	wantNext(t, x, "c", "bA", "c")
	// Pairs are not joined to chains: the second order does not wait for the first one once more.
	x = before(town("ppp"), "ab", "bc")
	wantNext(t, x, "abc", "", "a")
	wantNext(t, x, "abc", "b", "ac")
	wantNext(t, x, "abc", "ab", "c")
	x = before(town("bb"), "ab", "ba")
	wantNext(t, x, "ab", "", "")
	wantNext(t, x, "ab", "aA", "b")
	wantNext(t, x, "ab", "a", "")
}

// P16.2: orders that are apart can follow one another.
func TestNextOfPairsOfApart(t *testing.T) {
	x := apart(town("bb"), "ab")
	wantNext(t, x, "ab", "", "ab")
	wantNext(t, x, "ab", "a", "Ab")
	wantNext(t, x, "ab", "aA", "b")
}

// P16.2: numbers of no orders play no part, and a negative set has the orders whose bits are set.
func TestNextOfOtherSets(t *testing.T) {
	x := town("bpd")
	for _, more := range []int{8, 16, 1 << 10, 1 << 61, 1 << 62, math.MaxInt - 7, math.MinInt, -8, -16} {
		wantNextOf(t, x, 7+more, nil, visits("abC"))
		wantNextOf(t, x, 5+more, visits("a"), visits("AC"))
		wantNextOf(t, x, more, nil, nil)
		wantNextOf(t, town(""), more, nil, nil)
	}
}

// P16.2: as the model says, whatever the visits and the set are.
func TestNextFollowsTheModel(t *testing.T) {
	r := rand.New(rand.NewSource(1604))
	seen := make(map[int]int)
	for range 20000 {
		x := drawn(r, r.Intn(11))
		l := make([]api.Visit, r.Intn(2*len(x.Orders)+1))
		for i := range l {
			l[i] = api.Visit{Order: r.Intn(len(x.Orders)), Drop: r.Intn(2) == 0}
		}
		for r.Intn(6) == 0 {
			l = append(l, api.Visit{Order: oneOf(r, anyInts()...), Drop: r.Intn(2) == 0})
		}
		set := oneOf(r, r.Intn(1<<len(x.Orders)), 1<<len(x.Orders)-1, r.Int(), -r.Int())
		want := nextOf(x, set, l)
		wantNextOf(t, x, set, l, want)
		seen[len(want)]++
	}
	for count := range 11 {
		if seen[count] < 10 {
			t.Errorf("%d visits were next %d times", count, seen[count])
		}
	}
}

// P16.2: all beginnings of all lists of visits of small instances.
func TestNextOfEachList(t *testing.T) {
	n := 0
	for x := range smallInstances() {
		n++
		if n%50 > 0 {
			continue
		}
		eachList("aAbBcC", 4, func(l []api.Visit) {
			for _, set := range []int{7, 3, 5, n % 8} {
				wantNextOf(t, x, set, l, nextOf(x, set, l))
			}
		})
	}
}

// P16.2: a sequence goes on with a visit of Next, and a beginning that nothing follows is a whole sequence.
func TestSequencesFollowNext(t *testing.T) {
	r := rand.New(rand.NewSource(1605))
	steps := 0
	for range 1000 {
		x := drawn(r, 1+r.Intn(10))
		set := r.Intn(1 << len(x.Orders))
		l, err := sequence.All(x, set)
		if err != api.OK || len(l) > 1000 {
			continue
		}
		for _, one := range l {
			for i, v := range one {
				if next := sequence.Next(x, set, one[:i]); !slices.Contains(next, v) {
					t.Errorf("%s: Next of %b and %s = %s has not the visit after it in %s", about(x), set, show(one[:i]), show(next), show(one))
				}
				steps++
			}
			wantNextOf(t, x, set, one, nil)
		}
	}
	if steps < 20000 {
		t.Errorf("only %d steps", steps)
	}
}

// P16.2: walking along Next from no visits, in all ways, gives the sequences of an allowed set.
func TestNextLeadsToAllSequences(t *testing.T) {
	for _, x := range []api.Instance{town("bpd"), town("bbb"), before(town("bbpd"), "ca", "db"), before(town("bbbb"), "ab", "bc"), off(town("bbb"), "b")} {
		set := 0
		for i, o := range x.Orders {
			if !o.Off {
				set += 1 << i
			}
		}
		var found [][]api.Visit
		var walk func(l []api.Visit)
		walk = func(l []api.Visit) {
			next := sequence.Next(x, set, l)
			if len(next) == 0 {
				found = append(found, slices.Clone(l))
			}
			for _, v := range next {
				walk(append(slices.Clone(l), v))
			}
		}
		walk(nil)
		wantSequences(t, x, set, found)
	}
}
