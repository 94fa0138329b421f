package sets_test

import (
	"math"
	"math/rand"
	"slices"
	"testing"

	"lorry/api"
)

// all is the set of all numbers from 0 to 62, and last that of 62 alone.
const (
	all  = 1<<63 - 1
	last = 1 << 62
)

// outside returns numbers that are in no set.
func outside() []int {
	return []int{-1, -2, -62, -63, -64, -128, math.MinInt32, math.MinInt + 62, math.MinInt, 63, 64, 65, 126, 127, 128, 190, 254, 256, 320, math.MaxInt32, 1 << 32, 1 << 62, math.MaxInt - 1, math.MaxInt}
}

// model returns which numbers are in a set, by division alone.
func model(set int) [63]bool {
	var in [63]bool
	for i := range in {
		in[i] = set%2 == 1
		set /= 2
	}
	return in
}

// numbers returns the numbers of a set by its model, ascending.
func numbers(set int) []int {
	var l []int
	for i, in := range model(set) {
		if in {
			l = append(l, i)
		}
	}
	return l
}

// setOf adds powers of two.
func setOf(l ...int) int {
	set := 0
	for _, i := range l {
		set += 1 << i
	}
	return set
}

// drawn returns a set of so many numbers.
func drawn(r *rand.Rand, size int) int {
	return setOf(r.Perm(63)[:size]...)
}

// someSets returns the small sets, those of one number, and all without one, of neighbours, and drawn ones of all sizes.
func someSets() []int {
	var l []int
	for set := range 300 {
		l = append(l, set, all-set, set<<54)
	}
	for i := range 63 {
		l = append(l, 1<<i, all-1<<i, all>>i, all-all>>i)
	}
	r := rand.New(rand.NewSource(51))
	for size := range 64 {
		for range 8 {
			l = append(l, drawn(r, size))
		}
	}
	return l
}

// negatives are no sets.
func negatives() []int {
	l := []int{-1, -2, -3, -5, -64, -8192, -8193, math.MinInt32, math.MinInt, math.MinInt + 1, math.MinInt + 5, math.MinInt + 8191, math.MinInt + 8192, math.MinInt + last}
	r := rand.New(rand.NewSource(52))
	for size := range 63 {
		l = append(l, math.MinInt+drawn(r, size))
	}
	return l
}

// subsetsOf returns the subsets of a set with few numbers, in the order in which they are found.
func subsetsOf(set int) []int {
	l := []int{0}
	for _, i := range numbers(set) {
		for _, s := range slices.Clone(l) {
			l = append(l, s+1<<i)
		}
	}
	return l
}

// wantList compares a result with what is expected; with an error the list must be empty.
func wantList(t *testing.T, got []int, err api.Errno, want []int, wantErr api.Errno) {
	t.Helper()
	if err != wantErr || !slices.Equal(got, want) {
		t.Errorf("%v (%d sets), %d; want %v (%d sets), %d", got[:min(len(got), 20)], len(got), err, want[:min(len(want), 20)], len(want), wantErr)
	}
}
