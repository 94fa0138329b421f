package split_test

import (
	"testing"

	"lorry/api"
)

const (
	fourteen = "fourteen_chars"
	fifteen  = "fifteen_letters"
	sixteen  = "sixteen_letters_"
)

// wantNames checks the names of the orders of the expanded instance.
func wantNames(t *testing.T, x api.Instance, want ...string) {
	t.Helper()
	y, _ := expanded(t, x)
	var got []string
	for _, o := range y.Orders {
		got = append(got, o.Name)
	}
	if !equal(got, want) {
		t.Errorf("the names are %q; want %q", got, want)
	}
}

// P15.2: the name of a part has at most 16 characters; that of an order that is not divided is no part's name.
func TestExpandCountsTheCharacters(t *testing.T) {
	wantNames(t, named([]string{fourteen}, 2), "fourteen_chars_1", "fourteen_chars_2")
	wantNames(t, named([]string{fourteen, fifteen, sixteen}, 4, 1, 1), "fourteen_chars_1", "fourteen_chars_2", "fourteen_chars_3", "fourteen_chars_4", fifteen, sixteen)
	for parts := 2; parts <= 4; parts++ {
		for _, name := range []string{fifteen, sixteen} {
			wantNotExpanded(t, named([]string{name}, parts), api.ErrName)
			wantNotExpanded(t, named([]string{"a", name, "c"}, 1, parts, 1), api.ErrName)
			wantNotExpanded(t, named([]string{"a", "b", name}, 3, 1, parts), api.ErrName)
			wantNotExpanded(t, named([]string{name, "b", "c"}, parts, 2, 1), api.ErrName)
		}
	}
}

// P15.2: names of any length.
func TestExpandOfNamesOfEachLength(t *testing.T) {
	for size := 1; size <= 16; size++ {
		name := sixteen[:size]
		if size <= 14 {
			wantNames(t, named([]string{name}, 2), name+"_1", name+"_2")
		} else {
			wantNotExpanded(t, named([]string{name}, 2), api.ErrName)
		}
		wantNames(t, named([]string{name}, 1), name)
	}
}

// P15.2: a part's name is that of an order before it, or behind it, and whichever part it is.
func TestExpandRefusesNamesOfOrders(t *testing.T) {
	for parts := 2; parts <= 4; parts++ {
		for k, name := range []string{"a_1", "a_2", "a_3", "a_4"} {
			for _, x := range []api.Instance{
				named([]string{"a", name}, parts, 1), named([]string{name, "a"}, 1, parts),
				named([]string{"a", "b", name}, parts, 1, 1), named([]string{name, "b", "a"}, 1, 1, parts),
			} {
				if k < parts {
					wantNotExpanded(t, x, api.ErrTwice)
				} else {
					want, origin, _ := modelExpand(x)
					wantExpanded(t, x, want, origin)
				}
			}
		}
	}
	x := named([]string{"a", "a_2"}, 3, 1)
	x.Orders[1].Off = true
	wantNotExpanded(t, x, api.ErrTwice)
	wantNotExpanded(t, named([]string{fourteen, "fourteen_chars_2"}, 2, 1), api.ErrTwice)
}

// P15.2: also the name of an order that is divided itself, so that it is not in the expanded instance.
func TestExpandRefusesNamesOfDividedOrders(t *testing.T) {
	wantNotExpanded(t, named([]string{"a", "a_1"}, 2, 2), api.ErrTwice)
	wantNotExpanded(t, named([]string{"a_1", "a"}, 2, 2), api.ErrTwice)
	wantNotExpanded(t, named([]string{"a_1", "b", "a"}, 3, 1, 2), api.ErrTwice)
	wantNotExpanded(t, named([]string{"a_1_1", "a_1"}, 2, 2), api.ErrTwice)
	wantNames(t, named([]string{"a_1", "a"}, 3, 1), "a_1_1", "a_1_2", "a_1_3", "a")
	wantNames(t, named([]string{"a", "a_3"}, 2, 2), "a_1", "a_2", "a_3_1", "a_3_2")
}

// P15.2: a part's name that occurs earlier in the expanded instance and is that of no order, which takes two orders with one name.
func TestExpandRefusesNamesOfParts(t *testing.T) {
	wantNotExpanded(t, named([]string{"a", "a"}, 2, 2), api.ErrTwice)
	wantNotExpanded(t, named([]string{"a", "b", "a"}, 3, 1, 4), api.ErrTwice)
	wantNotExpanded(t, named([]string{"a", "a", fifteen}, 2, 2, 2), api.ErrTwice)
}

// P15.2: similar names are others.
func TestExpandAcceptsSimilarNames(t *testing.T) {
	wantNames(t, named([]string{"a", "a_0", "a_3", "a1", "A_1", "a__1", "a_11", "a_01"}, 2, 1, 1, 1, 1, 1, 1, 1), "a_1", "a_2", "a_0", "a_3", "a1", "A_1", "a__1", "a_11", "a_01")
	wantNames(t, named([]string{"_", "__", "_1"}, 2, 2, 1), "__1", "__2", "___1", "___2", "_1")
	wantNames(t, named([]string{"a", "A"}, 2, 2), "a_1", "a_2", "A_1", "A_2")
}

// P15.2, R2: the error of the first part that has one, behind too many orders and before too many pairs.
func TestExpandReturnsTheFirstError(t *testing.T) {
	wantNotExpanded(t, named([]string{"a", fifteen, "a_2"}, 2, 2, 1), api.ErrTwice)
	wantNotExpanded(t, named([]string{fifteen, "a", "a_2"}, 2, 2, 1), api.ErrName)
	wantNotExpanded(t, named([]string{"a_1", fifteen, "a"}, 1, 3, 3), api.ErrName)
	wantNotExpanded(t, named([]string{"a_1", "a", fifteen}, 1, 3, 3), api.ErrTwice)
	for _, names := range [][]string{{fifteen, "b", "c"}, {"a", "a_2", "c"}, {"a", "b", sixteen}} {
		wantNotExpanded(t, named(names, 4, 3, 4), api.ErrSize)
	}
	many := pairs{{0, 1}, {2, 3}}
	for _, c := range []struct {
		names []string
		want  api.Errno
	}{{[]string{"a", "b"}, api.ErrSize}, {[]string{"a", fifteen}, api.ErrName}, {[]string{"a", "b", "b_4"}, api.ErrTwice}, {[]string{fifteen, "b", "b_4"}, api.ErrName}, {[]string{"a", "b", "a_1", fifteen}, api.ErrTwice}} {
		x := named(c.names, 4, 4, 1, 1)
		x.Apart = many
		wantNotExpanded(t, x, c.want)
		x.Apart, x.Before = nil, many
		wantNotExpanded(t, x, c.want)
		x.Apart = many
		wantNotExpanded(t, x, c.want)
	}
}
