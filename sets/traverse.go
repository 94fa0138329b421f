package sets

import (
	"iter"

	"lorry/api"
)

// subsets traverses the subsets of a set, ascending.
func subsets(set int) iter.Seq[int] {
	return func(yield func(int) bool) {
		// Subtracting the set adds 1 to the bits of its members, as if they were neighbours.
		for s := 0; yield(s) && s != set; s = (s - set) & set {
		}
	}
}

// sized traverses the subsets with a number of members, ascending; size is from 0 to the size of the set.
func sized(set, size int) iter.Seq[int] {
	return func(yield func(int) bool) {
		last := set &^ lowest(set, Size(set)-size)
		for s := lowest(set, size); yield(s) && s != last; s = following(set, s) {
		}
	}
}

// following returns the next greater subset with as many members as s, where there is one.
func following(set, s int) int {
	// Bits outside the set pass the carry on: it takes a run of members away, and sets the next one.
	carried := ((s | ^set) + s&-s) & set
	return carried | lowest(set, Size(s)-Size(carried))
}

// lowest returns the n least members of a set.
func lowest(set, n int) int {
	rest := set
	for range n {
		rest = withoutLeast(rest)
	}
	return set &^ rest
}

// choices returns in how many ways k of n things are chosen or, if these are more than MaxCols, a number above MaxCols.
func choices(n, k int) int {
	count := 1
	for i := range min(k, n-k) {
		count = count * (n - i) / (i + 1)
		// The numbers rise up to the half of n: a greater one only follows a greater one.
		if count > api.MaxCols {
			break
		}
	}
	return count
}

// collect returns the sets of a traversal of so many.
func collect(traversal iter.Seq[int], count int) []int {
	l := make([]int, 0, count)
	for s := range traversal {
		l = append(l, s)
	}
	return l
}
