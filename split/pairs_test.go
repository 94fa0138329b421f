package split_test

import (
	"testing"

	"lorry/api"
)

// wantPairs checks what becomes of pairs, of both kinds.
func wantPairs(t *testing.T, l pairs, want pairs, parts ...int) {
	t.Helper()
	x := town(parts...)
	x.Apart = l
	y, _ := expanded(t, x)
	if !equal(y.Apart, want) || len(y.Before) > 0 {
		t.Errorf("the pairs %v of Apart became %v, and %v of Before; want %v", l, y.Apart, y.Before, want)
	}
	x.Apart, x.Before = nil, l
	y, _ = expanded(t, x)
	if !equal(y.Before, want) || len(y.Apart) > 0 {
		t.Errorf("the pairs %v of Before became %v, and %v of Apart; want %v", l, y.Before, y.Apart, want)
	}
}

// wantTooManyPairs checks the error, for both kinds of pairs.
func wantTooManyPairs(t *testing.T, l pairs, parts ...int) {
	t.Helper()
	x := town(parts...)
	x.Apart = l
	wantNotExpanded(t, x, api.ErrSize)
	x.Apart, x.Before = nil, l
	wantNotExpanded(t, x, api.ErrSize)
}

// P15.2: pairs between orders that are divided and ones that are not, in both directions.
func TestExpandPairsEachPart(t *testing.T) {
	wantPairs(t, nil, nil, 2, 3)
	wantPairs(t, pairs{{0, 1}}, pairs{{0, 1}}, 1, 1)
	wantPairs(t, pairs{{1, 0}}, pairs{{1, 0}}, 1, 1)
	wantPairs(t, pairs{{0, 1}}, pairs{{0, 3}, {1, 3}, {2, 3}}, 3, 1)
	wantPairs(t, pairs{{1, 0}}, pairs{{3, 0}, {3, 1}, {3, 2}}, 3, 1)
	wantPairs(t, pairs{{0, 1}}, pairs{{0, 1}, {0, 2}}, 1, 2)
	wantPairs(t, pairs{{1, 0}}, pairs{{1, 0}, {2, 0}}, 1, 2)
	wantPairs(t, pairs{{0, 1}}, pairs{{0, 2}, {0, 3}, {0, 4}, {1, 2}, {1, 3}, {1, 4}}, 2, 3)
	wantPairs(t, pairs{{1, 0}}, pairs{{2, 0}, {2, 1}, {3, 0}, {3, 1}, {4, 0}, {4, 1}}, 2, 3)
	// Parts of the same order are in no pair, and orders behind divided ones have other numbers.
	wantPairs(t, pairs{{1, 3}}, pairs{{3, 5}}, 3, 1, 1, 1)
	wantPairs(t, pairs{{3, 0}}, pairs{{6, 0}}, 1, 2, 3, 1)
}

// P15.2: the pairs follow each other as those of the instance, also those with exchanged numbers.
func TestExpandKeepsTheOrderOfPairs(t *testing.T) {
	wantPairs(t, pairs{{2, 1}, {0, 1}, {2, 0}}, pairs{{4, 2}, {4, 3}, {0, 2}, {0, 3}, {1, 2}, {1, 3}, {4, 0}, {4, 1}}, 2, 2, 1)
	x := town(2, 1)
	x.Before = pairs{{1, 0}, {0, 1}}
	y, _ := expanded(t, x)
	if !equal(y.Before, pairs{{2, 0}, {2, 1}, {0, 2}, {1, 2}}) {
		t.Errorf("Before became %v", y.Before)
	}
}

// P15.2: each list has its own pairs.
func TestExpandDoesNotMixPairs(t *testing.T) {
	x := town(2, 1, 1)
	x.Apart, x.Before = pairs{{0, 1}, {2, 1}}, pairs{{2, 0}}
	want := cloned(x)
	want.Orders = []api.Order{part("a_1", 5, 4, 1), part("a_2", 5, 3, 1), x.Orders[1], x.Orders[2]}
	want.Apart, want.Before = pairs{{0, 2}, {1, 2}, {3, 2}}, pairs{{3, 0}, {3, 1}}
	wantExpanded(t, x, want, []int{0, 0, 1, 2})
}

// P15.2: exactly sixteen pairs of a kind, and one more.
func TestExpandCountsThePairs(t *testing.T) {
	all := pairs{{0, 1}, {0, 2}, {0, 3}, {0, 4}, {0, 5}, {0, 6}, {1, 2}, {1, 3}, {1, 4}, {1, 5}, {1, 6}, {2, 3}, {2, 4}, {2, 5}, {2, 6}, {3, 4}, {3, 5}}
	wantPairs(t, all[:16], all[:16], 1, 1, 1, 1, 1, 1, 1)
	wantTooManyPairs(t, all[:16], 1, 1, 1, 1, 2, 1, 1)
	wantTooManyPairs(t, all[:16], 2, 1, 1, 1, 1, 1, 1)
	// The order with the number 6 is in three of these pairs, and that with the number 5 in three, too.
	wantPairs(t, all[:13], pairs{{0, 1}, {0, 2}, {0, 3}, {0, 4}, {0, 5}, {0, 6}, {0, 7}, {1, 2}, {1, 3}, {1, 4}, {1, 5}, {1, 6}, {1, 7}, {2, 3}, {2, 4}}[:15], 1, 1, 1, 1, 1, 1, 2)
	wantTooManyPairs(t, all[:15], 1, 1, 1, 1, 1, 1, 3)
	four := town(4, 4, 1, 1)
	four.Apart = pairs{{1, 0}}
	y, _ := expanded(t, four)
	if len(y.Apart) != 16 || y.Apart[0] != [2]int{4, 0} || y.Apart[4] != [2]int{5, 0} || y.Apart[15] != [2]int{7, 3} {
		t.Errorf("Apart became %v", y.Apart)
	}
	wantTooManyPairs(t, pairs{{1, 0}, {2, 3}}, 4, 4, 1, 1)
	wantTooManyPairs(t, pairs{{2, 3}, {1, 0}}, 4, 4, 1, 1)
	wantTooManyPairs(t, pairs{{0, 1}, {1, 2}}, 4, 4, 2)
}

// P15.2: sixteen pairs of each kind are not too many together.
func TestExpandCountsThePairsOfAKind(t *testing.T) {
	x := town(4, 4, 1, 1)
	x.Apart, x.Before = pairs{{0, 1}}, pairs{{1, 0}}
	y, _ := expanded(t, x)
	if len(y.Apart) != 16 || len(y.Before) != 16 || y.Apart[1] != [2]int{0, 5} || y.Before[1] != [2]int{4, 1} {
		t.Errorf("the pairs became %v and %v", y.Apart, y.Before)
	}
	for _, more := range []func(x *api.Instance){
		func(x *api.Instance) { x.Apart = append(x.Apart, [2]int{2, 3}) },
		func(x *api.Instance) { x.Before = append(x.Before, [2]int{3, 2}) },
		func(x *api.Instance) { x.Apart = append(x.Apart, [2]int{0, 3}); x.Before = nil },
		func(x *api.Instance) { x.Before = append(x.Before, [2]int{3, 1}); x.Apart = nil },
	} {
		x := cloned(x)
		more(&x)
		wantNotExpanded(t, x, api.ErrSize)
	}
}
