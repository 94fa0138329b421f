package loads_test

import (
	"math"
	"math/rand"
	"slices"
	"testing"

	"lorry/api"
)

// far is the greatest number of a list for which the sums are promised, and -far the least one.
const far = 1 << 30

// anyInts returns ints of all sizes, ascending.
func anyInts() []int {
	return []int{math.MinInt, -far, -1, 0, 1, 999, 1000, 1001, far, math.MaxInt}
}

// otherDims returns numbers of dimensions that Most and Sum refuse.
func otherDims() []int {
	return []int{-1, -2, -3, -4, math.MinInt32, math.MinInt, api.MaxDims + 1, api.MaxDims + 2, 7, 8, 64, math.MaxInt32, 1 << 32, 1<<32 + 2, math.MaxInt - 1, math.MaxInt}
}

// eachList calls f with every list of at most so many of some numbers.
func eachList(numbers []int, most int, f func(a []int)) {
	var extend func(a []int)
	extend = func(a []int) {
		f(slices.Clone(a))
		for i := 0; len(a) < most && i < len(numbers); i++ {
			extend(append(slices.Clone(a), numbers[i]))
		}
	}
	extend(nil)
}

// lists returns every list of at most so many of some numbers.
func lists(numbers []int, most int) [][]int {
	var l [][]int
	eachList(numbers, most, func(a []int) { l = append(l, a) })
	return l
}

// drawn returns a list of so many numbers from -most to most, some of them small or at the ends.
func drawn(r *rand.Rand, size, most int) []int {
	a := make([]int, size)
	for i := range a {
		switch r.Intn(5) {
		case 0:
			a[i] = r.Intn(11) - 5
		case 1:
			a[i] = most - r.Intn(3)
		case 2:
			a[i] = r.Intn(3) - most
		default:
			a[i] = r.Intn(2*most+1) - most
		}
	}
	return a
}

// drawnLists returns so many lists of so many numbers.
func drawnLists(r *rand.Rand, count, size, most int) [][]int {
	l := make([][]int, count)
	for i := range l {
		l[i] = drawn(r, size, most)
	}
	return l
}

// positive returns a list without the signs of its numbers.
func positive(a []int) []int {
	b := slices.Clone(a)
	for i := range b {
		b[i] = max(b[i], -b[i])
	}
	return b
}

// clones returns lists that share no memory with those of l.
func clones(l [][]int) [][]int {
	c := slices.Clone(l)
	for i := range c {
		c[i] = slices.Clone(c[i])
	}
	return c
}

// wantList compares a result with what is expected; with an error the list must be empty.
func wantList(t *testing.T, what string, got []int, err api.Errno, want []int, wantErr api.Errno) {
	t.Helper()
	if err != wantErr || !slices.Equal(got, want) {
		t.Errorf("%s: %v, %d; want %v, %d", what, got, err, want, wantErr)
	}
}
