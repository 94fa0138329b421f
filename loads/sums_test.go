package loads_test

import (
	"math/rand"
	"slices"
	"strconv"
	"testing"

	"lorry/api"
	"lorry/loads"
)

func wantAdd(t *testing.T, a, b, want []int, wantErr api.Errno) {
	t.Helper()
	got, err := loads.Add(a, b)
	wantList(t, "Add", got, err, want, wantErr)
}

func wantSub(t *testing.T, a, b, want []int, wantErr api.Errno) {
	t.Helper()
	got, err := loads.Sub(a, b)
	wantList(t, "Sub", got, err, want, wantErr)
}

// P6.2
func TestAddAndSubHaveTheirExamples(t *testing.T) {
	for _, c := range []struct{ a, b, sum, difference []int }{
		{[]int{5, 3}, []int{2, 4}, []int{7, 7}, []int{3, -1}},
		{nil, nil, nil, nil}, {nil, []int{}, nil, nil}, {[]int{}, nil, nil, nil},
		{[]int{0}, []int{0}, []int{0}, []int{0}},
		{[]int{0}, []int{7}, []int{7}, []int{-7}},
		{[]int{-5, 5}, []int{-7, -7}, []int{-12, -2}, []int{2, 12}},
		{[]int{1000, 0, 1}, []int{1000, 1, 1000}, []int{2000, 1, 1001}, []int{0, -1, -999}},
		{[]int{1, 2, 3, 4, 5}, []int{10, 20, 30, 40, 50}, []int{11, 22, 33, 44, 55}, []int{-9, -18, -27, -36, -45}},
		{[]int{far, far, -far, -far}, []int{far, -far, far, -far}, []int{2147483648, 0, 0, -2147483648}, []int{0, 2147483648, -2147483648, 0}},
		{[]int{far, -far}, []int{1, 1}, []int{1073741825, -1073741823}, []int{1073741823, -1073741825}},
	} {
		wantAdd(t, c.a, c.b, c.sum, api.OK)
		wantSub(t, c.a, c.b, c.difference, api.OK)
	}
}

// P6.2
func TestAddAndSubReckonEachDimension(t *testing.T) {
	r := rand.New(rand.NewSource(62))
	for i := range 4000 {
		size := i % 40
		a, b := drawn(r, size, far), drawn(r, size, far)
		sum, difference := make([]int, size), make([]int, size)
		for j := range a {
			sum[j], difference[j] = a[j]+b[j], a[j]-b[j]
		}
		wantAdd(t, a, b, sum, api.OK)
		wantSub(t, a, b, difference, api.OK)
	}
}

// P6.2
func TestAddAndSubRefuseUnequalLengths(t *testing.T) {
	r := rand.New(rand.NewSource(63))
	for n := range 8 {
		for m := range 8 {
			if n != m {
				a, b := drawn(r, n, far), drawn(r, m, far)
				wantAdd(t, a, b, nil, api.ErrArg)
				wantSub(t, a, b, nil, api.ErrArg)
			}
		}
	}
}

func wantMost(t *testing.T, l [][]int, dims int, want []int, wantErr api.Errno) {
	t.Helper()
	got, err := loads.Most(l, dims)
	wantList(t, "Most for "+strconv.Itoa(dims), got, err, want, wantErr)
}

func wantSum(t *testing.T, l [][]int, dims int, want []int, wantErr api.Errno) {
	t.Helper()
	got, err := loads.Sum(l, dims)
	wantList(t, "Sum for "+strconv.Itoa(dims), got, err, want, wantErr)
}

// P6.2
func TestMostAndSumHaveTheirExamples(t *testing.T) {
	for _, c := range []struct {
		l         [][]int
		dims      int
		most, sum []int
	}{
		{[][]int{{3, 1}, {2, 8}}, 2, []int{3, 8}, []int{5, 9}},
		{[][]int{{3, 1}}, 2, []int{3, 1}, []int{3, 1}},
		{[][]int{{3, -1}}, 2, []int{3, 0}, []int{3, -1}},
		{[][]int{{-3, -1}, {-2, -8}, {-5, -4}}, 2, []int{0, 0}, []int{-10, -13}},
		{[][]int{{-3}}, 1, []int{0}, []int{-3}},
		{[][]int{{4, -4, 0}, {-4, 4, 0}}, 3, []int{4, 4, 0}, []int{0, 0, 0}},
		{[][]int{{1, 9, 5}, {9, 5, 1}, {5, 1, 9}, {-7, -7, -7}}, 3, []int{9, 9, 9}, []int{8, 8, 8}},
		{[][]int{{1, 2, 3}, {1, 2, 3}}, 3, []int{1, 2, 3}, []int{2, 4, 6}},
		{[][]int{{1000}, {1000}, {1000}}, 1, []int{1000}, []int{3000}},
		{[][]int{{far, -far}, {far, -far}, {far, -far}}, 2, []int{far, 0}, []int{3221225472, -3221225472}},
		{[][]int{{far, -far}, {-far, far}}, 2, []int{far, far}, []int{0, 0}},
		{[][]int{{}}, 0, nil, nil}, {[][]int{nil}, 0, nil, nil}, {[][]int{nil, {}, nil}, 0, nil, nil},
	} {
		wantMost(t, c.l, c.dims, c.most, api.OK)
		wantSum(t, c.l, c.dims, c.sum, api.OK)
	}
}

// P6.2
func TestMostAndSumOfNoListsAreZeros(t *testing.T) {
	for dims := range api.MaxDims + 1 {
		for _, l := range [][][]int{nil, {}} {
			wantMost(t, l, dims, make([]int, dims), api.OK)
			wantSum(t, l, dims, make([]int, dims), api.OK)
		}
	}
}

// P6.2
func TestMostAndSumReckonEachDimension(t *testing.T) {
	r := rand.New(rand.NewSource(64))
	for i := range 4000 {
		dims := i % (api.MaxDims + 1)
		l := drawnLists(r, r.Intn(12), dims, []int{3, api.MaxLoad, far}[r.Intn(3)])
		most, sum := make([]int, dims), make([]int, dims)
		for d := range dims {
			column := []int{0}
			for _, a := range l {
				column = append(column, a[d])
				sum[d] += a[d]
			}
			slices.Sort(column)
			most[d] = column[len(column)-1]
		}
		wantMost(t, l, dims, most, api.OK)
		wantSum(t, l, dims, sum, api.OK)
	}
}

// P6.2
func TestMostAndSumTakeManyLists(t *testing.T) {
	l := make([][]int, 100000)
	for i := range l {
		l[i] = []int{far, i, -far}
	}
	wantMost(t, l, 3, []int{far, 99999, 0}, api.OK)
	wantSum(t, l, 3, []int{107374182400000, 4999950000, -107374182400000}, api.OK)
}

// P6.2
func TestMostAndSumRefuseOtherDims(t *testing.T) {
	for _, dims := range otherDims() {
		same := make([]int, min(max(dims, 0), 64))
		for _, l := range [][][]int{nil, {}, {nil}, {same}, {same, same}, {{1}}, {{1, 2, 3}}} {
			wantMost(t, l, dims, nil, api.ErrArg)
			wantSum(t, l, dims, nil, api.ErrArg)
		}
	}
}

// P6.2: a list with another length is refused wherever it is.
func TestMostAndSumRefuseOtherLengths(t *testing.T) {
	r := rand.New(rand.NewSource(65))
	for dims := range api.MaxDims + 1 {
		for size := range 8 {
			for count := 1; size != dims && count <= 5; count++ {
				l := drawnLists(r, count, dims, far)
				for i := range l {
					right := l[i]
					l[i] = drawn(r, size, far)
					wantMost(t, l, dims, nil, api.ErrArg)
					wantSum(t, l, dims, nil, api.ErrArg)
					l[i] = right
				}
			}
		}
	}
}

// checkGroup checks the laws for three lists; all that is reckoned is from -2^30 to 2^30.
func checkGroup(t *testing.T, a, b, c []int) {
	t.Helper()
	sum, err := loads.Add(a, b)
	if err != api.OK {
		t.Fatal(a, b, err)
	}
	wantSub(t, sum, b, a, api.OK)
	wantSub(t, sum, a, b, api.OK)
	wantAdd(t, b, a, sum, api.OK)
	difference, err := loads.Sub(a, b)
	if err != api.OK {
		t.Fatal(a, b, err)
	}
	wantAdd(t, difference, b, a, api.OK)
	left, err := loads.Add(sum, c)
	if err != api.OK {
		t.Fatal(sum, c, err)
	}
	sum, err = loads.Add(b, c)
	if err != api.OK {
		t.Fatal(b, c, err)
	}
	wantAdd(t, a, sum, left, api.OK)
}

// P6.4
func TestAddAndSubAreAGroup(t *testing.T) {
	numbers := []int{-far / 4, -1001, -1, 0, 1, 1000, far / 4}
	for _, x := range numbers {
		for _, y := range numbers {
			for _, z := range numbers {
				checkGroup(t, []int{x, y, 5}, []int{y, z, -6}, []int{z, x, 7})
			}
		}
	}
	r := rand.New(rand.NewSource(66))
	for i := range 3000 {
		size := i % 12
		checkGroup(t, drawn(r, size, far/4), drawn(r, size, far/4), drawn(r, size, far/4))
	}
}

// P6.5
func TestListsAreWithinTheirBounds(t *testing.T) {
	r := rand.New(rand.NewSource(67))
	for i := range 4000 {
		dims := i % (api.MaxDims + 1)
		l := drawnLists(r, r.Intn(8), dims, []int{2, api.MaxLoad, far}[r.Intn(3)])
		most, err := loads.Most(l, dims)
		for _, a := range l {
			if err != api.OK || !loads.Fits(a, most) {
				t.Errorf("%v does not fit %v of %v", a, most, l)
			}
		}
		for j := range l {
			l[j] = positive(l[j])
		}
		most, err = loads.Most(l, dims)
		sum, e := loads.Sum(l, dims)
		if err != api.OK || e != api.OK || !loads.Fits(most, sum) {
			t.Errorf("%v does not fit %v of %v", most, sum, l)
		}
	}
}
