package ratio_test

import (
	"math"
	"math/rand"
	"slices"
	"strconv"
	"testing"

	"lorry/api"
	"lorry/ratio"
)

func wantTimes(t *testing.T, n []int, a []api.Rat, want api.Rat, err api.Errno) {
	t.Helper()
	if s, e := ratio.Times(n, a); s != want || e != err {
		t.Errorf("Times(%d, %.80s) = %.80s, %d; want %.80s, %d", n, a, s, e, want, err)
	}
}

// checkTimes follows the operations of the chapter one by one, with another implementation.
func checkTimes(t *testing.T, n []int, a []api.Rat) {
	t.Helper()
	total := api.Rat("0")
	for i := range n {
		product, e := multiplication.expected(api.Rat(strconv.Itoa(n[i])), a[i])
		if e == api.OK {
			total, e = addition.expected(total, product)
		}
		if e != api.OK {
			wantTimes(t, n, a, "", e)
			return
		}
	}
	wantTimes(t, n, a, total, api.OK)
}

// P4.1
func TestTimesHasItsExamples(t *testing.T) {
	wantTimes(t, []int{2, -3}, []api.Rat{"1/2", "1/3"}, "0", api.OK)
	wantTimes(t, nil, nil, "0", api.OK)
	wantTimes(t, []int{}, nil, "0", api.OK)
	wantTimes(t, nil, []api.Rat{}, "0", api.OK)
	wantTimes(t, []int{5}, []api.Rat{"-3/10"}, "-3/2", api.OK)
	wantTimes(t, []int{0}, []api.Rat{"-3/10"}, "0", api.OK)
	wantTimes(t, []int{0, 0, 1}, []api.Rat{"7", "1/7", "0"}, "0", api.OK)
	wantTimes(t, []int{1, 1, 1}, []api.Rat{"1/2", "1/3", "1/6"}, "1", api.OK)
	wantTimes(t, []int{math.MaxInt, math.MinInt}, []api.Rat{"1", "1"}, "-1", api.OK)
	wantTimes(t, []int{math.MinInt}, []api.Rat{"-1/9223372036854775808"}, "1", api.OK)
	wantTimes(t, []int{math.MinInt, 0}, []api.Rat{"-1", "1/2"}, "9223372036854775808", api.OK)
}

// P4.1
func TestTimesReturnsSumsOfProducts(t *testing.T) {
	r := rand.New(rand.NewSource(47))
	for i := range 3000 {
		n, a := make([]int, r.Intn(7)), []api.Rat{}
		for k := range n {
			n[k] = int(r.Uint64()) >> r.Intn(64)
			a = append(a, drawn(r, []int{1, 3, 12, 30}[i%4]))
		}
		checkTimes(t, n, a)
	}
	for range 40 {
		n, a := []int{r.Intn(5) - 2, r.Intn(5) - 2, r.Intn(5) - 2}, []api.Rat{}
		for range n {
			a = append(a, drawn(r, api.MaxDigits/3+20))
		}
		checkTimes(t, n, a)
	}
}

// P4.1: the errors in their order.
func TestTimesRefusesWrongArguments(t *testing.T) {
	long := api.Rat(nines(api.MaxDigits))
	wantTimes(t, []int{1}, nil, "", api.ErrArg)
	wantTimes(t, nil, []api.Rat{"1"}, "", api.ErrArg)
	wantTimes(t, []int{1, 2}, []api.Rat{"1"}, "", api.ErrArg)
	wantTimes(t, []int{2}, []api.Rat{long, "2/4"}, "", api.ErrArg)
	wantTimes(t, []int{2, 0, 5}, []api.Rat{"x", "1"}, "", api.ErrArg)
	for _, a := range wrongRats() {
		wantTimes(t, []int{0}, []api.Rat{a}, "", api.ErrForm)
		wantTimes(t, []int{1, 0, 3}, []api.Rat{"1", a, "1/2"}, "", api.ErrForm)
		wantTimes(t, []int{2, 2, 1}, []api.Rat{long, long, a}, "", api.ErrForm)
	}
}

// P4.1: an operation with an error counts, also where the sum would fit.
func TestTimesRefusesLongIntegers(t *testing.T) {
	long := api.Rat(nines(api.MaxDigits))
	half := api.Rat("1/" + tens(api.MaxDigits/2))
	for _, c := range []struct {
		n    []int
		a    []api.Rat
		want api.Rat
		err  api.Errno
	}{
		{[]int{2}, []api.Rat{long}, "", api.ErrSize},
		{[]int{1, -2}, []api.Rat{long, long}, "", api.ErrSize},
		{[]int{0, 2, -2}, []api.Rat{"1", long, long}, "", api.ErrSize},
		{[]int{3}, []api.Rat{"4" + long[1:] + "/3"}, "", api.ErrSize},
		{[]int{1, 1, -1}, []api.Rat{long, "1", "1"}, "", api.ErrSize},
		{[]int{1, -1, 1}, []api.Rat{long, "1", "1"}, long, api.OK},
		{[]int{-1, 1, -1}, []api.Rat{long, "1", "1"}, "-" + long, api.OK},
		{[]int{1, 1}, []api.Rat{half, half}, "", api.ErrSize},
		{[]int{1, 0}, []api.Rat{half, half}, half, api.OK},
		{[]int{1, 1}, []api.Rat{"1/2", "1/" + long}, "", api.ErrSize},
		{[]int{2, 1}, []api.Rat{"1/2", "1/" + long}, "", api.ErrSize},
		{[]int{-2, 1}, []api.Rat{"1/2", "1/" + long}, "-" + long[1:] + "8/" + long, api.OK},
	} {
		checkTimes(t, c.n, c.a)
		wantTimes(t, c.n, c.a, c.want, c.err)
	}
}

// R4
func TestTimesLeavesItsArguments(t *testing.T) {
	n, a := []int{3, -4, 0}, []api.Rat{"1/2", "-5", "7/9"}
	wantTimes(t, n, a, "43/2", api.OK)
	if !slices.Equal(n, []int{3, -4, 0}) || !slices.Equal(a, []api.Rat{"1/2", "-5", "7/9"}) {
		t.Errorf("changed to %d, %s", n, a)
	}
}
