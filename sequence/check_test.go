package sequence_test

import (
	"math"
	"math/rand"
	"slices"
	"strings"
	"testing"

	"lorry/api"
	"lorry/sequence"
)

// P16.1
func TestCheckOfRightVisits(t *testing.T) {
	wantCheck(t, town("b"), api.OK, "aA")
	wantCheck(t, town("p"), api.OK, "a")
	wantCheck(t, town("d"), api.OK, "A")
	wantCheck(t, town("bb"), api.OK, "aA", "bB", "aAbB", "abAB", "abBA", "baAB", "baBA", "bBaA")
	wantCheck(t, town("bpd"), api.OK, "aA", "b", "C", "bC", "Cb", "aCAb", "CaAb", "abAC", "aACb")
	wantCheck(t, town("bbbbbbbbbb"), api.OK, "jJ", "abcdefghijABCDEFGHIJ", "jihgfedcbaABCDEFGHIJ", "aAbBcCdDeEfFgGhHiIjJ")
}

// P16.1
func TestCheckOfNoVisits(t *testing.T) {
	for _, x := range []api.Instance{town(""), town("bpd"), off(town("b"), "a"), apart(town("bb"), "ab"), before(town("bb"), "ab", "ba")} {
		wantVisits(t, x, nil, api.ErrArg)
		wantVisits(t, x, []api.Visit{}, api.ErrArg)
	}
}

// P16.1: the first, the last, and any other visit can be one of an order that does not exist.
func TestCheckOfOrdersThatDoNotExist(t *testing.T) {
	for _, kinds := range []string{"", "b", "bbb", "bbbbbbbbbb"} {
		x := town(kinds)
		right := visits("aAbBcCdDeEfFgGhHiIjJ")[:2*len(kinds)]
		for _, number := range append(anyInts(), len(kinds), len(kinds)+1) {
			if 0 <= number && number < len(kinds) {
				continue
			}
			for at := range len(right) + 1 {
				wantVisits(t, x, slices.Insert(slices.Clone(right), at, api.Visit{Order: number}), api.ErrArg)
				wantVisits(t, x, slices.Insert(slices.Clone(right), at, api.Visit{Order: number, Drop: true}), api.ErrArg)
			}
		}
	}
}

// P16.1
func TestCheckOfCancelledOrders(t *testing.T) {
	x := off(town("bpd"), "b")
	wantCheck(t, x, api.OK, "aA", "C", "aCA")
	wantCheck(t, x, api.ErrState, "b", "baA", "aAb", "abA", "bC", "Cb")
	x = off(town("bbbbbbbbbb"), "aj")
	wantCheck(t, x, api.OK, "bB", "iIbB")
	wantCheck(t, x, api.ErrState, "aA", "jJ", "aAjJ", "bBjJ", "jbBJ", "iIbBaA")
}

// P16.1: also if the visit is not one of its order, and if it occurs more than twice.
func TestCheckOfVisitsTwice(t *testing.T) {
	wantCheck(t, town("bpd"), api.ErrTwice, "aa", "AA", "aaA", "aAA", "aAa", "AaA", "aAaA", "aaaaaa", "bb", "CC", "bCb", "BB", "cc", "aAbb", "bbaA", "baAb")
	wantCheck(t, town("bbbbbbbbbb"), api.ErrTwice, "abcdefghijABCDEFGHIJJ", "abcdefghijABCDEFGHIJa", "abcdefghijaABCDEFGHIJ")
}

// P16.1
func TestCheckOfVisitsThatOrdersDoNotHave(t *testing.T) {
	wantCheck(t, town("bpd"), api.ErrPair, "B", "bB", "Bb", "c", "cC", "Cc", "aAB", "aAc", "BaA", "caA", "acA", "bc", "cB", "aAbBC")
}

// P16.1
func TestCheckOfMissingVisits(t *testing.T) {
	wantCheck(t, town("bbb"), api.ErrPair, "a", "A", "aAb", "aAB", "baA", "BaA", "ab", "AB", "aB", "abA", "abB", "abcAB", "bcABC")
	wantCheck(t, town("bpd"), api.ErrPair, "ab", "aC", "Ab", "CA", "baC", "bAC")
}

// P16.1
func TestCheckOfDeliveriesBeforePickups(t *testing.T) {
	wantCheck(t, town("bbb"), api.ErrPair, "Aa", "aABb", "BbaA", "BaAb", "aBbA", "aBAb", "ABCabc", "aAbBCc")
	wantCheck(t, town("bpd"), api.ErrPair, "Aa", "AbaC", "AbCa", "bCAa")
}

// P16.1: a pair can be named either way.
func TestCheckOfPairsOfApart(t *testing.T) {
	for _, name := range []string{"ac", "ca"} {
		x := apart(town("bbb"), name)
		wantCheck(t, x, api.OK, "aA", "bB", "cC", "aAbB", "bBaA", "bcBC", "cbBC")
		wantCheck(t, x, api.ErrApart, "aAcC", "cCaA", "acAC", "cabABC", "aAbBcC", "cCbBaA")
	}
	x := apart(town("pdpdpdpdpd"), "ab", "jc", "de", "ji")
	wantCheck(t, x, api.OK, "a", "B", "ac", "aJ", "BceFgHi", "iHgFeca")
	wantCheck(t, x, api.ErrApart, "aB", "Ba", "aceFgB", "Jc", "cJ", "De", "eD", "Ji", "iaJ")
}

// P16.1: only the first order, only the second one, and both, one after the other and interleaved.
func TestCheckOfPairsOfBefore(t *testing.T) {
	x := before(town("bbb"), "ca")
	wantCheck(t, x, api.OK, "bB", "cC", "bcCB", "cbCB", "cCaA", "bcCaAB", "cbCaAB", "cCbaBA", "cbCBaA")
	wantCheck(t, x, api.ErrBefore, "aA", "aAbB", "abBA", "aAcC", "acCA", "acAC", "caCA", "caAC", "cbaCAB", "bcaCBA", "abABcC")
	x = before(town("pdb"), "ba", "ac")
	wantCheck(t, x, api.OK, "B", "Ba", "BacC")
	wantCheck(t, x, api.ErrBefore, "a", "aB", "acC", "cC", "BcC", "cCB", "BcCa", "BcaC", "cBCa", "aBcC", "cCBa")
	// What two orders need, and an order that needs two others.
	x = before(town("bpd"), "ab", "ac")
	wantCheck(t, x, api.OK, "aA", "aAb", "aAC", "aAbC", "aACb")
	wantCheck(t, x, api.ErrBefore, "b", "C", "bC", "abA", "aCA", "CaAb", "abAC", "aCAb", "Cb")
	x = before(town("bpd"), "ac", "bc")
	wantCheck(t, x, api.OK, "aA", "b", "aAb", "abA", "baA", "aAbC", "abAC", "baAC")
	wantCheck(t, x, api.ErrBefore, "C", "bC", "aAC", "aACb", "abCA", "bCaA", "CaAb")
}

// P16.1: chains have no more than their pairs, and the orders of a circle are on no route.
func TestCheckOfChainsAndCircles(t *testing.T) {
	x := before(town("pppp"), "ab", "bc", "cd")
	wantCheck(t, x, api.OK, "a", "ab", "abc", "abcd")
	wantCheck(t, x, api.ErrBefore, "b", "c", "d", "ac", "ad", "bc", "bcd", "abd", "acd", "ba", "abdc", "acbd", "bacd", "dcba")
	x = before(town("bbb"), "ab", "ba")
	wantCheck(t, x, api.OK, "cC")
	wantCheck(t, x, api.ErrBefore, "aA", "bB", "aAbB", "bBaA", "abAB", "aAbBcC", "cCbB")
	x = before(town("dpdp"), "ab", "bc", "ca")
	wantCheck(t, x, api.OK, "d")
	wantCheck(t, x, api.ErrBefore, "A", "b", "C", "Ab", "bC", "CA", "AbC", "bCA", "CAb", "CbA", "AbCd")
}

// P16.1: an order that another one needs can be cancelled.
func TestCheckOfPairsWithCancelledOrders(t *testing.T) {
	x := off(before(town("bbb"), "ab"), "a")
	wantCheck(t, x, api.OK, "cC")
	wantCheck(t, x, api.ErrBefore, "bB", "bcBC")
	wantCheck(t, x, api.ErrState, "aA", "aAbB")
	x = off(before(town("bbb"), "ab"), "b")
	wantCheck(t, x, api.OK, "aA", "aAcC")
	wantCheck(t, x, api.ErrState, "aAbB", "bB")
	x = off(apart(town("bbb"), "ab"), "a")
	wantCheck(t, x, api.OK, "bB")
	wantCheck(t, x, api.ErrState, "aAbB")
}

// P16.1, R2: of several errors the first one, wherever the visits are that have it.
func TestCheckReturnsTheFirstError(t *testing.T) {
	// The order c is cancelled, d and e are apart, and f needs g.
	x := off(before(apart(town("bbbbbbb"), "de"), "gf"), "c")
	wantValid(t, x)
	parts := []struct {
		visits string
		err    api.Errno
	}{{"kK", api.ErrArg}, {"cC", api.ErrState}, {"bBb", api.ErrTwice}, {"A", api.ErrPair}, {"dDeE", api.ErrApart}, {"fF", api.ErrBefore}}
	for bits := 1; bits < 1<<len(parts); bits++ {
		some := chosen(parts, bits)
		var texts []string
		for _, part := range some {
			texts = append(texts, part.visits)
		}
		eachOrder(texts, func(l []string) { wantVisits(t, x, visits(strings.Join(l, "")), some[0].err) })
	}
	// One order, and one pair, have several errors.
	x = off(before(apart(town("bbp"), "ab"), "ab", "ba", "ca"), "b")
	wantCheck(t, x, api.ErrArg, "bbAd", "dbbA")
	wantCheck(t, x, api.ErrState, "b", "bB", "bb", "Bb", "aAbB", "aabb", "CCb", "Ab")
	wantCheck(t, x, api.ErrTwice, "aa", "AA", "AaA", "CC", "caAa")
	wantCheck(t, x, api.ErrPair, "a", "A", "Aa", "aAC", "C", "cC")
	wantCheck(t, off(x, ""), api.ErrState, "bB")
	x = before(apart(town("bb"), "ba"), "ab", "ba")
	wantCheck(t, x, api.ErrTwice, "aAbBa")
	wantCheck(t, x, api.ErrPair, "aAb", "Aa", "ab", "AaBb")
	wantCheck(t, x, api.ErrApart, "aAbB", "baAB")
	wantCheck(t, x, api.ErrBefore, "aA", "bB")
}

// P16.1: only the visits of a route are checked.
func TestCheckIgnoresOtherFields(t *testing.T) {
	for _, number := range anyInts() {
		for _, rests := range [][]bool{nil, {true}, make([]bool, 100)} {
			for s, want := range map[string]api.Errno{"aA": api.OK, "Aa": api.ErrPair, "": api.ErrArg} {
				r := api.Route{Type: number, Start: -number, Rests: rests, Visits: visits(s)}
				if got := sequence.Check(town("b"), r); got != want {
					t.Errorf("Check of %+v = %d; want %d", r, got, want)
				}
			}
		}
	}
}

// eachList calls f with each list of letters that has at most so many.
func eachList(letters string, most int, f func(l []api.Visit)) {
	all := visits(letters)
	var extend func(l []api.Visit)
	extend = func(l []api.Visit) {
		f(l)
		for _, v := range all {
			if len(l) < most {
				extend(append(l, v))
			}
		}
	}
	extend(make([]api.Visit, 0, most))
}

// P16.1: all lists of up to 3 visits of some small instances, right or wrong, and of up to 5 of fewer ones.
func TestCheckOfEachList(t *testing.T) {
	seen := make(map[api.Errno]int)
	n := 0
	for x := range smallInstances() {
		n++
		if n%4 > 0 {
			continue
		}
		most := 3
		if n%400 == 0 {
			most = 5
		}
		eachList("aAbBcCd", most, func(l []api.Visit) {
			want := checkOf(x, l)
			wantVisits(t, x, l, want)
			seen[want]++
		})
	}
	wantEachError(t, seen, 1000)
}

func wantEachError(t *testing.T, seen map[api.Errno]int, least int) {
	t.Helper()
	for _, err := range []api.Errno{api.OK, api.ErrArg, api.ErrState, api.ErrTwice, api.ErrPair, api.ErrApart, api.ErrBefore} {
		if seen[err] < least {
			t.Errorf("the error %d was there %d times", err, seen[err])
		}
	}
}

// drawnVisits returns visits of some orders, in any order, each pickup mostly before its delivery.
func drawnVisits(r *rand.Rand, x api.Instance) []api.Visit {
	var l []api.Visit
	orders := r.Perm(len(x.Orders))
	for _, number := range orders[:r.Intn(len(orders)+1)] {
		l = append(l, visitsOf(x, number)...)
		for range r.Intn(3) {
			i := r.Intn(len(l))
			if i > 0 && (l[i].Order != l[i-1].Order || r.Intn(20) == 0) {
				l[i], l[i-1] = l[i-1], l[i]
			}
		}
	}
	for r.Intn(6) == 0 {
		v := api.Visit{Order: oneOf(r, append(anyInts(), orders...)...), Drop: r.Intn(2) == 0}
		l = slices.Insert(l, r.Intn(len(l)+1), v)
	}
	return l
}

// P16.1: lists of visits of up to 10 orders.
func TestCheckOfDrawnVisits(t *testing.T) {
	r := rand.New(rand.NewSource(1601))
	seen := make(map[api.Errno]int)
	for i := range 30000 {
		x := drawn(r, 1+i%10)
		if i%100 == 0 {
			wantValid(t, x)
		}
		for range 10 {
			l := drawnVisits(r, x)
			want := checkOf(x, l)
			wantVisits(t, x, l, want)
			seen[want]++
		}
	}
	wantEachError(t, seen, 2000)
}

// P16.1, R5: instances with more orders than a set can have.
func TestCheckOfManyOrders(t *testing.T) {
	x := town("bbb")
	for len(x.Orders) < 200 {
		x.Orders = append(x.Orders, x.Orders[0])
	}
	x.Before = [][2]int{{0, math.MaxInt}, {math.MinInt, 64}, {199, 100}, {-1, -1}}
	x.Apart = [][2]int{{0, math.MaxInt}, {math.MinInt, 64}, {-1, -1}, {200, 0}}
	for number := range x.Orders {
		sequence.Check(x, route([]api.Visit{{Order: number}, {Order: number, Drop: true}}))
	}
}
