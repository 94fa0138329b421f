package sets_test

import (
	"math/rand"
	"slices"
	"testing"

	"lorry/api"
	"lorry/sets"
)

// P5.1
func TestHasAndSizeHaveTheirExamples(t *testing.T) {
	if !sets.Has(5, 0) || sets.Has(5, 1) || !sets.Has(5, 2) || sets.Has(5, 3) {
		t.Error("5 has 0 and 2")
	}
	for i := range 63 {
		if sets.Has(0, i) || !sets.Has(all, i) || sets.Has(last, i) != (i == 62) || sets.Has(last-1, i) == (i == 62) {
			t.Errorf("Has for %d", i)
		}
	}
	for set, size := range map[int]int{0: 0, 1: 1, 5: 2, 7: 3, 8: 1, last: 1, last - 1: 62, all: 63, last + 5: 3} {
		if got := sets.Size(set); got != size {
			t.Errorf("Size(%d) = %d; want %d", set, got, size)
		}
	}
}

func TestHasAndSizeAgreeWithTheModel(t *testing.T) {
	for _, set := range someSets() {
		for i, in := range model(set) {
			if sets.Has(set, i) != in {
				t.Errorf("Has(%d, %d) is not %v", set, i, in)
			}
		}
		if got, want := sets.Size(set), len(numbers(set)); got != want {
			t.Errorf("Size(%d) = %d; want %d", set, got, want)
		}
	}
}

// P5.1
func TestNumbersOutsideAreInNoSet(t *testing.T) {
	for _, i := range outside() {
		for _, set := range someSets() {
			if sets.Has(set, i) {
				t.Fatalf("Has(%d, %d)", set, i)
			}
		}
	}
}

func wantOf(t *testing.T, l []int, set int, err api.Errno) {
	t.Helper()
	if s, e := sets.Of(l); s != set || e != err {
		t.Errorf("Of(%v) = %d, %d; want %d, %d", l, s, e, set, err)
	}
}

// P5.2
func TestOfHasItsExamples(t *testing.T) {
	wantOf(t, []int{2, 0}, 5, api.OK)
	wantOf(t, []int{0, 2}, 5, api.OK)
	wantOf(t, nil, 0, api.OK)
	wantOf(t, []int{}, 0, api.OK)
	wantOf(t, []int{0}, 1, api.OK)
	wantOf(t, []int{62}, last, api.OK)
	wantOf(t, []int{62, 0}, last+1, api.OK)
	wantOf(t, []int{3, 3}, 0, api.ErrTwice)
	wantOf(t, []int{63}, 0, api.ErrArg)
	r := rand.New(rand.NewSource(53))
	wantOf(t, r.Perm(63), all, api.OK)
	for range 2000 {
		l := r.Perm(63)[:r.Intn(64)]
		wantOf(t, l, setOf(l...), api.OK)
	}
}

// P5.2
func TestOfRefusesNumbersOutside(t *testing.T) {
	for _, i := range outside() {
		wantOf(t, []int{i}, 0, api.ErrArg)
		wantOf(t, []int{0, 5, i}, 0, api.ErrArg)
		wantOf(t, []int{i, 0, 5}, 0, api.ErrArg)
		wantOf(t, []int{i, i}, 0, api.ErrArg)
	}
}

// P5.2
func TestOfRefusesNumbersThatAreThereTwice(t *testing.T) {
	every := numbers(all)
	for i := range 63 {
		wantOf(t, []int{i, i}, 0, api.ErrTwice)
		wantOf(t, []int{i, (i + 1) % 63, i}, 0, api.ErrTwice)
		wantOf(t, append(slices.Clone(every), i), 0, api.ErrTwice)
	}
	wantOf(t, []int{3, 3, 3}, 0, api.ErrTwice)
	wantOf(t, []int{0, 0}, 0, api.ErrTwice)
	wantOf(t, make([]int, 100000), 0, api.ErrTwice)
}

// P5.2, R2: the first element with an error decides.
func TestOfReturnsTheErrorOfTheFirstElement(t *testing.T) {
	for _, i := range outside() {
		wantOf(t, []int{3, 3, i}, 0, api.ErrTwice)
		wantOf(t, []int{3, i, 3}, 0, api.ErrArg)
		wantOf(t, []int{i, 3, 3}, 0, api.ErrArg)
		wantOf(t, []int{1, 3, 2, 1, i, 3}, 0, api.ErrTwice)
		wantOf(t, []int{1, 3, 2, i, 1, 3}, 0, api.ErrArg)
		wantOf(t, append(numbers(all), i, 0), 0, api.ErrArg)
		wantOf(t, append(numbers(all), 0, i), 0, api.ErrTwice)
	}
}

// P5.2
func TestMembersAreAscending(t *testing.T) {
	for set, want := range map[int][]int{0: nil, 1: {0}, 5: {0, 2}, 10: {1, 3}, last: {62}, last + 5: {0, 2, 62}} {
		if got := sets.Members(set); !slices.Equal(got, want) {
			t.Errorf("Members(%d) = %v; want %v", set, got, want)
		}
	}
	for _, set := range someSets() {
		if got, want := sets.Members(set), numbers(set); !slices.Equal(got, want) {
			t.Errorf("Members(%d) = %v; want %v", set, got, want)
		}
	}
}

// P5.3
func TestLeastIsTheFirstNumber(t *testing.T) {
	for set, want := range map[int]int{0: -1, 1: 0, 4: 2, 5: 0, 6: 1, last: 62, last + 4: 2, all: 0, all - 1: 1} {
		if got := sets.Least(set); got != want {
			t.Errorf("Least(%d) = %d; want %d", set, got, want)
		}
	}
	for _, set := range someSets() {
		want := -1
		if l := numbers(set); len(l) > 0 {
			want = l[0]
		}
		if got := sets.Least(set); got != want {
			t.Errorf("Least(%d) = %d; want %d", set, got, want)
		}
	}
}

// P5.3
func TestWithinHasItsExamples(t *testing.T) {
	for _, c := range []struct {
		a, b int
		want bool
	}{
		{4, 5, true}, {2, 5, false}, {5, 4, false}, {0, 0, true}, {0, 5, true}, {5, 0, false}, {5, 5, true}, {7, 5, false},
		{last, all, true}, {all, last, false}, {last, last, true}, {last, all - last, false}, {0, all, true}, {all, 0, false}, {all, all, true}, {1, last, false}, {last, 1, false},
	} {
		if sets.Within(c.a, c.b) != c.want {
			t.Errorf("Within(%d, %d) is not %v", c.a, c.b, c.want)
		}
	}
}

func TestWithinComparesEachNumber(t *testing.T) {
	l := someSets()
	check := func(a, b int) {
		in, want := model(b), true
		for _, i := range numbers(a) {
			want = want && in[i]
		}
		if sets.Within(a, b) != want {
			t.Errorf("Within(%d, %d) is not %v", a, b, want)
		}
	}
	for _, a := range l {
		for _, b := range l[:len(l)/4] {
			check(a, b)
			check(b, a)
		}
		for i := range 63 {
			check(a, a|1<<i)
			check(a|1<<i, a)
		}
	}
}

// P5.5
func TestOfInvertsMembers(t *testing.T) {
	for _, set := range someSets() {
		l := sets.Members(set)
		wantOf(t, l, set, api.OK)
		slices.Reverse(l)
		wantOf(t, l, set, api.OK)
		if len(l) != sets.Size(set) {
			t.Errorf("%d members of %d", len(l), set)
		}
	}
}

// R4
func TestOfDoesNotModifyItsArgument(t *testing.T) {
	for _, l := range [][]int{{9, 4, 62, 0}, {3, 1, 3, 0}, {5, 63, 2}} {
		before := slices.Clone(l)
		sets.Of(l)
		if !slices.Equal(l, before) {
			t.Errorf("%v became %v", before, l)
		}
	}
}

// R1: nothing else is promised for negative sets.
func TestNegativeSetsEnd(t *testing.T) {
	others := append(outside(), 0, 1, 2, 5, 13, 14, 31, 32, 60, 61, 62)
	for _, set := range negatives() {
		sets.Size(set)
		sets.Members(set)
		sets.Least(set)
		sets.Subsets(set)
		for _, n := range others {
			sets.Has(set, n)
			sets.Sized(set, n)
			sets.Within(set, n)
			sets.Within(n, set)
		}
	}
}
