package sequence_test

import (
	"math"
	"math/rand"
	"slices"
	"testing"

	"lorry/api"
	"lorry/rules"
	"lorry/sequence"
)

// P16.1: the examples of the chapter.
func TestExamples(t *testing.T) {
	wantAll(t, town("dd"), "ab", "AB", "BA")
	wantAll(t, town("bb"), "ab", "aAbB", "abAB", "abBA", "baAB", "baBA", "bBaA")
	wantAll(t, before(town("bb"), "ab"), "ab", "aAbB")
	wantAll(t, apart(town("bb"), "ab"), "ab")
	x := before(town("bb"), "ab", "ba")
	for _, set := range []string{"a", "b", "ab"} {
		wantAll(t, x, set)
	}
}

// P16.1
func TestAllOfOneOrder(t *testing.T) {
	wantAll(t, town("b"), "a", "aA")
	wantAll(t, town("p"), "a", "a")
	wantAll(t, town("d"), "a", "A")
	for i, kind := range "bpdbpdbpdb" {
		letter := string(rune('a' + i))
		want := map[rune]string{'b': letter + string(rune('A'+i)), 'p': letter, 'd': string(rune('A' + i))}[kind]
		wantAll(t, town("bpdbpdbpdb"), letter, want)
	}
}

// P16.1: orders with different visits, of which only those of the set are visited.
func TestAllOfSomeOrders(t *testing.T) {
	x := town("pdb")
	wantAll(t, x, "ab", "aB", "Ba")
	wantAll(t, x, "ac", "acC", "caC", "cCa")
	wantAll(t, x, "bc", "BcC", "cBC", "cCB")
	wantAll(t, x, "abc", "aBcC", "acBC", "acCB", "BacC", "BcaC", "BcCa", "caBC", "caCB", "cBaC", "cBCa", "cCaB", "cCBa")
	wantAll(t, town("bbbbbbbbbd"), "cj", "cCJ", "cJC", "JcC")
}

// P16.1
func TestAllOfTheEmptySet(t *testing.T) {
	for _, x := range []api.Instance{town(""), town("bpd"), off(town("b"), "a"), apart(town("bb"), "ab"), before(town("bb"), "ab", "ba")} {
		wantAll(t, x, "")
	}
}

// P16.1
func TestAllOfSetsThatAreNone(t *testing.T) {
	for _, kinds := range []string{"", "b", "bbb", "bbbbbbbbbb"} {
		n := len(kinds)
		for _, x := range []api.Instance{town(kinds), off(town(kinds), "abcdefghij"[:n])} {
			wantNotAll(t, x, api.ErrArg, -1, -2, -1<<32, math.MinInt, math.MinInt+1, math.MinInt+1<<n)
			wantNotAll(t, x, api.ErrArg, 1<<n, 1<<n+1, 2<<n-1, 2<<n, 1<<61, 1<<62, 1<<62+1, math.MaxInt-1, math.MaxInt)
		}
	}
	// Pairs and cancelled orders come later.
	x := off(before(apart(town("bbbb"), "ab"), "ac", "ca"), "d")
	for set := range 16 {
		wantNotAll(t, x, api.ErrArg, 16+set, set-32, 1<<62+set, math.MinInt+set)
	}
}

// P16.1
func TestAllOfCancelledOrders(t *testing.T) {
	x := off(town("bpd"), "b")
	wantAll(t, x, "ac", "aAC", "aCA", "CaA")
	for _, set := range []string{"b", "ab", "bc", "abc"} {
		wantAll(t, x, set)
	}
	wantAll(t, off(town("bbbbbbbbbb"), "j"), "abcdefghij")
}

// P16.1: a pair can be named either way.
func TestAllOfPairsOfApart(t *testing.T) {
	for _, name := range []string{"ac", "ca"} {
		x := apart(town("ppp"), name)
		wantAll(t, x, "ab", "ab", "ba")
		wantAll(t, x, "bc", "bc", "cb")
		wantAll(t, x, "a", "a")
		wantAll(t, x, "ac")
		wantAll(t, x, "abc")
	}
	wantAll(t, apart(town("bbbbbbbbbb"), "ij"), "abcdefghij")
}

// P16.1: also if the set has not what an order needs.
func TestAllOfPairsOfBefore(t *testing.T) {
	x := before(town("bpd"), "ca")
	wantAll(t, x, "c", "C")
	wantAll(t, x, "bc", "bC", "Cb")
	wantAll(t, x, "ac", "CaA")
	wantAll(t, x, "abc", "bCaA", "CaAb", "CabA", "CbaA")
	wantAll(t, x, "a")
	wantAll(t, x, "ab")
	x = before(town("bbb"), "ab", "bc")
	wantAll(t, x, "abc", "aAbBcC")
	wantAll(t, x, "ab", "aAbB")
	for _, set := range []string{"b", "c", "ac", "bc"} {
		wantAll(t, x, set)
	}
	x = before(town("bbbd"), "ad", "bd")
	wantAll(t, x, "abd", "aAbBD", "abABD", "abBAD", "baABD", "baBAD", "bBaAD")
	wantAll(t, x, "ad")
	wantAll(t, off(x, "a"), "bd")
	wantAll(t, before(town("bbbbbbbbbb"), "ij", "ji"), "abcdefghij")
}

// P16.1: one after another and, after the first order, all others in any order.
func TestAllOfAllOrders(t *testing.T) {
	x := before(town("bbbbbbbbbb"), "ab", "bc", "cd", "de", "ef", "fg", "gh", "hi", "ij")
	wantAll(t, x, "abcdefghij", "aAbBcCdDeEfFgGhHiIjJ")
	x = before(town("dpdpdpdpdp"), "ji", "ih", "hg", "gf", "fe", "ed", "dc", "cb", "ba", "ja", "ib", "hc", "jh", "jg", "jf", "je")
	wantAll(t, x, "abcdefghij", "jIhGfEdCbA")
	wantCount(t, town("bpd"), "abc", 12)
	wantCount(t, before(town("dddddddddd"), "ab", "bc", "cd", "de", "ef", "fg"), "abcdefghij", 8*9*10)
}

// P16.1: (2n)! / 2^n sequences for n orders with both places, and n! for n with one.
func TestAllCountsSequences(t *testing.T) {
	both, one := 1, 1
	for n := 1; n <= 10; n++ {
		both, one = both*(2*n-1)*n, one*n
		orders := "abcdefghij"[:n]
		for kinds, want := range map[string]int{"bbbbbbbbbb": both, "pppppppppp": one, "dddddddddd": one, "pdpdpdpdpd": one} {
			if want > 8192 {
				wantNotAll(t, town(kinds), api.ErrSize, setOf(orders))
				continue
			}
			wantCount(t, town(kinds), orders, want)
		}
	}
}

// P16.1: exactly MaxCols sequences, and one or two more.
func TestAllOfMostSequences(t *testing.T) {
	for _, one := range []struct {
		x     api.Instance
		count int
	}{
		{before(town("pppddppppb"), "he", "hd", "hc", "hi", "fj", "eg", "ed", "ij", "bd", "gd", "ag", "ea", "fg", "id", "fb"), api.MaxCols},
		{before(town("bbbbbbb"), "be", "ac", "ad", "ae", "ba", "bd", "de", "bc", "fc", "fa"), api.MaxCols - 2},
		{before(town("ppdpddbpp"), "ih", "bh", "df", "gi", "ac", "da", "de", "be"), api.MaxCols + 1},
		{before(town("ddpddddpbd"), "ad", "he", "ce", "gj", "ci", "gb", "hj", "di", "hi", "fe", "gf", "cg", "ch", "af"), api.MaxCols + 2},
	} {
		wantValid(t, one.x)
		set := 1<<len(one.x.Orders) - 1
		if got := countOf(one.x, set); got != one.count {
			t.Errorf("%s has %d sequences; want %d", about(one.x), got, one.count)
		}
		if one.count > api.MaxCols {
			wantNotAll(t, one.x, api.ErrSize, set)
		} else if got := wantSorted(t, one.x, set); len(got) != one.count {
			t.Errorf("%s: All has %d sequences; want %d", about(one.x), len(got), one.count)
		}
	}
}

// P16.1: too many sequences are an error only if the set is allowed.
func TestAllOfTooManySequences(t *testing.T) {
	x := town("bbbbbbbbbb")
	for _, orders := range []string{"abcde", "fghij", "abcdefghij"} {
		wantNotAll(t, x, api.ErrSize, setOf(orders))
		for _, y := range []api.Instance{off(x, orders[:1]), off(x, orders[4:5]), apart(x, orders[3:]), before(x, orders[:2], orders[1:2]+orders[:1])} {
			wantAll(t, y, orders)
		}
	}
	wantNotAll(t, before(x, "ab"), api.ErrSize, setOf("abcdef"), setOf("cdefg"))
	wantAll(t, before(x, "ab"), "bcdefg")
	wantNotAll(t, before(town("pppppppppp"), "ab", "bc"), api.ErrSize, setOf("abcdefghij"))
}

// wantSorted checks that the sequences are different, ascending, and right, and returns them.
func wantSorted(t *testing.T, x api.Instance, set int) [][]api.Visit {
	t.Helper()
	l := all(t, x, set)
	for i, one := range l {
		if i > 0 && (!sequence.Less(l[i-1], one) || !lessOf(l[i-1], one)) {
			t.Errorf("%s: All of %b has %s before %s", about(x), set, show(l[i-1]), show(one))
		}
		wantVisits(t, x, one, api.OK)
		if orders, err := sequence.Orders(route(one)); orders != set || err != api.OK {
			t.Errorf("%s: All of %b has %s", about(x), set, show(one))
		}
	}
	return l
}

// P16.1: all sets of small instances have the sequences of the model.
func TestAllOfEachSet(t *testing.T) {
	count, n := 0, 0
	for x := range smallInstances() {
		n++
		if n%5 > 0 {
			continue
		}
		for set := range 8 {
			want := allOf(x, set)
			wantSequences(t, x, set, want)
			count += len(want)
		}
	}
	if count < 3000 {
		t.Errorf("only %d sequences", count)
	}
}

// P16.1: sets of drawn instances have those of the model or, if it would try too many, as many as are counted.
func TestAllOfDrawnSets(t *testing.T) {
	r := rand.New(rand.NewSource(1602))
	tried, forbidden, counted, tooMany := 0, 0, 0, 0
	for range 600 {
		x := drawn(r, 1+r.Intn(10))
		for range 10 {
			set := r.Intn(1 << len(x.Orders))
			switch size := len(visitsOfSet(x, set)); {
			case size <= 6:
				wantSequences(t, x, set, allOf(x, set))
				tried++
			case rules.Allowed(x, set) != api.OK:
				wantSequences(t, x, set, nil)
				forbidden++
			case size <= 12:
				want := countOf(x, set)
				if want > api.MaxCols {
					wantNotAll(t, x, api.ErrSize, set)
					tooMany++
					continue
				}
				if l := wantSorted(t, x, set); len(l) != want {
					t.Errorf("%s: All of %b has %d sequences; want %d", about(x), set, len(l), want)
				}
				counted++
			}
		}
	}
	if min(tried, forbidden) < 800 || min(counted, tooMany) < 50 {
		t.Errorf("%d sets were tried, %d forbidden, %d counted, %d had too many sequences", tried, forbidden, counted, tooMany)
	}
}

func visitsOfSet(x api.Instance, set int) []api.Visit {
	var l []api.Visit
	for number := range members(set) {
		l = append(l, visitsOf(x, number)...)
	}
	return l
}

// P16.1: what Check accepts is in All of its orders, and nothing else is.
func TestAllHasWhatCheckAccepts(t *testing.T) {
	for i, x := range []api.Instance{
		town("bbb"), town("bpb"), town("dbp"),
		before(town("bbb"), "ac"), before(town("bbb"), "ca", "ba"), before(town("bbb"), "ab", "ba"),
		apart(town("bbb"), "bc"), before(apart(town("bbb"), "ba"), "ac"), off(town("bbb"), "b"), off(before(town("bbb"), "bc"), "b"),
	} {
		accepted := make(map[int][][]api.Visit)
		eachList("aAbBcC", 6, func(l []api.Visit) {
			r := api.Route{Visits: l}
			if sequence.Check(x, r) == api.OK {
				set, _ := sequence.Orders(r)
				accepted[set] = append(accepted[set], slices.Clone(l))
			}
		})
		for set := 1; set < 8; set++ {
			wantSequences(t, x, set, accepted[set])
		}
		if len(accepted) == 0 {
			t.Errorf("%d: no list was accepted", i)
		}
	}
}

// P16.1: the same with drawn lists, which Check mostly accepts.
func TestAllHasDrawnVisits(t *testing.T) {
	r := rand.New(rand.NewSource(1603))
	found := 0
	for range 20000 {
		x := drawn(r, 1+r.Intn(10))
		l := drawnVisits(r, x)
		if len(l) > 9 || sequence.Check(x, route(l)) != api.OK {
			continue
		}
		set, _ := sequence.Orders(route(l))
		every, err := sequence.All(x, set)
		if err == api.OK && !slices.ContainsFunc(every, func(one []api.Visit) bool { return slices.Equal(one, l) }) {
			t.Errorf("%s: All of %b has not %s", about(x), set, show(l))
		}
		found++
	}
	if found < 2000 {
		t.Errorf("only %d lists were accepted", found)
	}
}
