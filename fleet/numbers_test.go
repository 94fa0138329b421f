package fleet_test

import (
	"math"
	"math/rand"
	"slices"
	"testing"

	"lorry/api"
	"lorry/fleet"
)

// P10.1
func TestDimsIsThatOfTheFirstType(t *testing.T) {
	for _, c := range []struct {
		l    []api.Type
		want int
	}{
		{nil, 0}, {[]api.Type{}, 0}, {[]api.Type{van("a", 5, 2)}, 2}, {[]api.Type{van("a")}, 0}, {[]api.Type{{}}, 0}, {[]api.Type{{Cap: []int{}}}, 0}, {[]api.Type{van("a", 5)}, 1}, {[]api.Type{van("a", 5, 2, 1)}, 3},
		{[]api.Type{van("a"), van("b", 5)}, 0}, {[]api.Type{van("a", 5), van("b", 5, 2)}, 1}, {[]api.Type{van("a", 5, 2), van("b", 5), van("c")}, 2}, {[]api.Type{van("a", -1, 1001), van("b", 5)}, 2},
		{[]api.Type{van("a", 1, 2, 3, 4)}, 4}, {[]api.Type{van("a", make([]int, 70000)...), van("b", 5)}, 70000}, {vans(7), 2},
	} {
		if got := fleet.Dims(c.l); got != c.want {
			t.Errorf("Dims of %d types = %d; want %d", len(c.l), got, c.want)
		}
	}
}

// wantTotal compares Total with the expected sum.
func wantTotal(t *testing.T, want int, counts ...int) {
	t.Helper()
	l := make([]api.Type, len(counts))
	for i, x := range counts {
		l[i].Count = x
	}
	if got := fleet.Total(l); got != want {
		t.Errorf("Total of %v = %d; want %d", counts, got, want)
	}
}

// P10.1
func TestTotalAddsRightCounts(t *testing.T) {
	wantTotal(t, 0)
	wantTotal(t, 5, 2, 3)
	wantTotal(t, 5, 2, -1, 3, 11)
	wantTotal(t, 10, -1, 0, 10, 11)
	wantTotal(t, 0, -1)
	wantTotal(t, 0, 11)
	wantTotal(t, 9, math.MinInt, 9, math.MaxInt, 1<<32+4, -1<<32+4)
	wantTotal(t, 60, 10, 10, 10, 10, 10, 10)
	wantTotal(t, 70, 10, 10, 10, 10, 10, 10, 10)
	wantTotal(t, 10000, slices.Repeat([]int{10}, 1000)...)
	for x := -300; x <= 300; x++ {
		if 0 <= x && x <= 10 {
			wantTotal(t, x+7, x, 7)
		} else {
			wantTotal(t, 7, x, 7)
		}
	}
}

// P10.1: no other field matters.
func TestTotalLooksOnlyAtCounts(t *testing.T) {
	r := rand.New(rand.NewSource(106))
	for range 1000 {
		l, want := changed(r, drawn(r, 3)), 0
		for _, v := range l {
			for n := 1; n <= 10; n++ {
				if v.Count == n {
					want += n
				}
			}
		}
		if got := fleet.Total(l); got != want {
			t.Errorf("Total(%v) = %d; want %d", l, got, want)
		}
	}
}

func wantAble(t *testing.T, has, skills int, want bool) {
	t.Helper()
	if fleet.Able(api.Type{Skills: has}, skills) != want {
		t.Errorf("Able of %b to %b is not %v", has, skills, want)
	}
}

// P10.2
func TestAbleHasItsEdges(t *testing.T) {
	for _, c := range []struct {
		has, skills int
		want        bool
	}{
		{5, 4, true}, {5, 0, true}, {5, 2, false}, {5, 1, true}, {5, 5, true}, {5, 7, false}, {5, 8, false}, {5, 13, false},
		{0, 0, true}, {0, 1, false}, {0, math.MaxInt, false}, {5, -1, false}, {5, math.MinInt, false}, {0, -1, false}, {0, math.MinInt, false},
		{-1, 0, false}, {-1, 1, false}, {-1, -1, false}, {math.MinInt, 0, false}, {math.MinInt, math.MinInt, false}, {-5, 3, false}, {-1, math.MaxInt, false},
		{math.MaxInt, 0, true}, {math.MaxInt, 1, true}, {math.MaxInt, 1 << 62, true}, {math.MaxInt, math.MaxInt, true}, {math.MaxInt, -1, false}, {math.MaxInt, math.MinInt, false},
		{1<<30 - 1, 1<<30 - 1, true}, {1<<30 - 1, 1 << 30, false}, {1 << 30, 1 << 30, true}, {1 << 62, 1 << 62, true}, {1 << 62, 1 << 30, false}, {1, 1 << 32, false}, {1, 1<<32 + 1, false}, {1<<32 + 1, 1 << 32, true},
	} {
		wantAble(t, c.has, c.skills, c.want)
	}
	v := allWrong()
	v.Skills = 5
	if !fleet.Able(v, 4) || fleet.Able(v, 2) {
		t.Error("another field matters")
	}
}

// hasAll compares two sets bit by bit, without operators for sets.
func hasAll(has, skills int) bool {
	if has < 0 || skills < 0 {
		return false
	}
	for skills > 0 {
		if skills%2 > has%2 {
			return false
		}
		has, skills = has/2, skills/2
	}
	return true
}

// skillSets returns sets of skills of all sizes, and numbers that are none.
func skillSets() []int {
	l := anyInts()
	for bit := range 63 {
		l = append(l, 1<<bit, 1<<bit-1, math.MaxInt-1<<bit)
	}
	return l
}

// P10.2
func TestAbleComparesEachBit(t *testing.T) {
	for has := -3; has < 70; has++ {
		for skills := -3; skills < 140; skills++ {
			wantAble(t, has, skills, hasAll(has, skills))
		}
	}
	for _, has := range skillSets() {
		for _, skills := range skillSets() {
			wantAble(t, has, skills, hasAll(has, skills))
		}
	}
}

// P10.2: a type is able to a union just if it is able to both sets.
func TestAbleToUnions(t *testing.T) {
	check := func(has, a, b int) {
		v := api.Type{Skills: has}
		if fleet.Able(v, a|b) != (fleet.Able(v, a) && fleet.Able(v, b)) {
			t.Errorf("%b, %b and %b", has, a, b)
		}
	}
	for has := -1; has < 33; has++ {
		for a := range 32 {
			for b := range 32 {
				check(has, a, b)
			}
		}
	}
	r := rand.New(rand.NewSource(107))
	for range 20000 {
		a, b := r.Int()&r.Int()&r.Int(), r.Int()&r.Int()&r.Int()
		check(a|b|r.Int(), a, b)
		check(r.Int()|r.Int(), a, b)
	}
}
