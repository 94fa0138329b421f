package sets_test

import (
	"math"
	"math/big"
	"math/rand"
	"slices"
	"testing"

	"lorry/api"
	"lorry/sets"
)

func wantSubsets(t *testing.T, set int, want []int, err api.Errno) {
	t.Helper()
	l, e := sets.Subsets(set)
	wantList(t, l, e, want, err)
}

func wantSized(t *testing.T, set, size int, want []int, err api.Errno) {
	t.Helper()
	l, e := sets.Sized(set, size)
	wantList(t, l, e, want, err)
}

// P5.4
func TestSubsetsHaveTheirExamples(t *testing.T) {
	wantSubsets(t, 5, []int{0, 1, 4, 5}, api.OK)
	wantSubsets(t, 0, []int{0}, api.OK)
	wantSubsets(t, 1, []int{0, 1}, api.OK)
	wantSubsets(t, 7, []int{0, 1, 2, 3, 4, 5, 6, 7}, api.OK)
	wantSubsets(t, last, []int{0, last}, api.OK)
	wantSubsets(t, last+9, []int{0, 1, 8, 9, last, last + 1, last + 8, last + 9}, api.OK)
}

// P5.4: 13 numbers have exactly MaxCols subsets.
func TestSubsetsAreAscending(t *testing.T) {
	r := rand.New(rand.NewSource(54))
	for size := range 14 {
		for range 6 {
			set := drawn(r, size)
			want := subsetsOf(set)
			slices.Sort(want)
			wantSubsets(t, set, want, api.OK)
		}
	}
	for _, set := range []int{api.MaxCols - 1, (api.MaxCols - 1) << 50, all - all>>13} {
		want := subsetsOf(set)
		slices.Sort(want)
		if len(want) != api.MaxCols {
			t.Fatal(len(want))
		}
		wantSubsets(t, set, want, api.OK)
	}
}

// P5.4: one number more is too many.
func TestSubsetsAreAtMostMaxCols(t *testing.T) {
	r := rand.New(rand.NewSource(55))
	for size := 14; size <= 63; size++ {
		for range 6 {
			wantSubsets(t, drawn(r, size), nil, api.ErrSize)
		}
	}
	for _, set := range []int{2*api.MaxCols - 1, (2*api.MaxCols - 1) << 49, all - all>>14, all - 1, all - last, all} {
		wantSubsets(t, set, nil, api.ErrSize)
	}
}

// P5.4
func TestSizedHasItsExamples(t *testing.T) {
	wantSized(t, 7, 2, []int{3, 5, 6}, api.OK)
	wantSized(t, 7, 0, []int{0}, api.OK)
	wantSized(t, 7, 1, []int{1, 2, 4}, api.OK)
	wantSized(t, 7, 3, []int{7}, api.OK)
	wantSized(t, 7, 4, nil, api.OK)
	wantSized(t, 7, -1, nil, api.OK)
	wantSized(t, 0, 0, []int{0}, api.OK)
	wantSized(t, 0, 1, nil, api.OK)
	wantSized(t, 0, -1, nil, api.OK)
	wantSized(t, last, 1, []int{last}, api.OK)
	wantSized(t, last+9, 2, []int{9, last + 1, last + 8}, api.OK)
	wantSized(t, all, 0, []int{0}, api.OK)
	wantSized(t, all, 63, []int{all}, api.OK)
	wantSized(t, all, 64, nil, api.OK)
	wantSized(t, all, 3, nil, api.ErrSize)
	wantSized(t, all, 31, nil, api.ErrSize)
	wantSized(t, all, 60, nil, api.ErrSize)
	var without []int
	for i := 62; i >= 0; i-- {
		without = append(without, all-1<<i)
	}
	wantSized(t, all, 62, without, api.OK)
}

// P5.4
func TestSizedReturnsTheSubsetsOfTheSize(t *testing.T) {
	r := rand.New(rand.NewSource(56))
	for size := range 13 {
		set := drawn(r, size)
		every := subsetsOf(set)
		slices.Sort(every)
		for k := -1; k <= size+1; k++ {
			var want []int
			for _, s := range every {
				if len(numbers(s)) == k {
					want = append(want, s)
				}
			}
			wantSized(t, set, k, want, api.OK)
		}
	}
}

// P5.4: of each number of members, and of each size, also where Subsets would return ErrSize.
func TestSizedReturnsAtMostMaxCols(t *testing.T) {
	r := rand.New(rand.NewSource(57))
	for size := range 64 {
		set := drawn(r, size)
		for k := range size + 1 {
			count := new(big.Int).Binomial(int64(size), int64(k))
			if count.Cmp(big.NewInt(api.MaxCols)) > 0 {
				wantSized(t, set, k, nil, api.ErrSize)
			} else {
				wantEachOfSize(t, set, k, int(count.Int64()))
			}
		}
	}
}

// wantEachOfSize checks that there are so many subsets, and that they are different and ascending.
func wantEachOfSize(t *testing.T, set, size, count int) {
	t.Helper()
	l, e := sets.Sized(set, size)
	if e != api.OK || len(l) != count {
		t.Fatalf("Sized(%d, %d) has %d sets, %d; want %d", set, size, len(l), e, count)
	}
	for i, s := range l {
		if len(numbers(s)) != size || s|set != set || i > 0 && l[i-1] >= s {
			t.Fatalf("Sized(%d, %d) has %d", set, size, s)
		}
	}
}

// P5.4: the sizes that are next to MaxCols; no set has exactly MaxCols subsets of one size.
func TestSizedAtTheLimit(t *testing.T) {
	r := rand.New(rand.NewSource(58))
	for _, c := range [][3]int{
		{16, 6, 8008}, {16, 10, 8008}, {37, 3, 7770}, {37, 34, 7770}, {22, 4, 7315}, {22, 18, 7315}, {15, 7, 6435}, {15, 8, 6435}, {17, 5, 6188}, {63, 2, 1953}, {63, 61, 1953},
		{16, 7, 0}, {16, 8, 0}, {16, 9, 0}, {38, 3, 0}, {38, 35, 0}, {23, 4, 0}, {23, 19, 0}, {18, 5, 0}, {18, 13, 0}, {17, 6, 0}, {63, 3, 0}, {63, 60, 0}, {62, 31, 0},
	} {
		if set := drawn(r, c[0]); c[2] == 0 {
			wantSized(t, set, c[1], nil, api.ErrSize)
		} else {
			wantEachOfSize(t, set, c[1], c[2])
		}
	}
}

// P5.4
func TestSizedIsEmptyForOtherSizes(t *testing.T) {
	for _, set := range someSets() {
		size := len(numbers(set))
		for _, k := range []int{-1, -2, -63, math.MinInt, math.MinInt + 1, size + 1, size + 2, size + 64, math.MaxInt32, math.MaxInt - 1, math.MaxInt} {
			wantSized(t, set, k, nil, api.OK)
		}
	}
}

// P5.5
func TestSubsetsOfEachSizeAreAllOfThem(t *testing.T) {
	r := rand.New(rand.NewSource(59))
	for size := range 14 {
		set := drawn(r, size)
		every, e := sets.Subsets(set)
		if e != api.OK || len(every) != 1<<size || size != sets.Size(set) {
			t.Errorf("%d subsets of %d, %d", len(every), set, e)
		}
		var together []int
		for k := range size + 1 {
			l, e := sets.Sized(set, k)
			for _, s := range l {
				if e != api.OK || sets.Size(s) != k || !sets.Within(s, set) {
					t.Errorf("Sized(%d, %d) has %d, %d", set, k, s, e)
				}
			}
			together = append(together, l...)
		}
		slices.Sort(together)
		if !slices.Equal(together, every) {
			t.Errorf("the subsets of %d of each size are not all of them", set)
		}
	}
}

// R4, R6: a result is new, and the same one each time.
func TestResultsAreNew(t *testing.T) {
	first := func(l []int, _ api.Errno) []int { return l }
	for _, f := range []func(set int) []int{
		sets.Members,
		func(set int) []int { return first(sets.Subsets(set)) },
		func(set int) []int { return first(sets.Sized(set, 2)) },
	} {
		a, b := f(last+21), f(last+21)
		want := slices.Clone(b)
		for i := range a {
			a[i] = -7
		}
		a = append(a, 8)
		if len(want) < 4 || !slices.Equal(b, want) || !slices.Equal(f(last+21), want) || a[len(a)-1] != 8 {
			t.Errorf("%v and %v; want %v", b, f(last+21), want)
		}
	}
}
