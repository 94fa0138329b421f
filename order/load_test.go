package order_test

import (
	"math"
	"math/rand"
	"slices"
	"testing"

	"lorry/api"
	"lorry/order"
)

// loaded returns orders with these loads.
func loaded(lists ...[]int) []api.Order {
	l := make([]api.Order, len(lists))
	for i, load := range lists {
		l[i].Load = load
	}
	return l
}

func wantLoad(t *testing.T, l []api.Order, set, dims int, want ...int) {
	t.Helper()
	if got, err := order.Load(l, set, dims); err != api.OK || !slices.Equal(got, want) {
		t.Errorf("Load of %b with %d dimensions of %+v = %v, %d; want %v", set, dims, l, got, err, want)
	}
}

func wantNoLoad(t *testing.T, l []api.Order, set, dims int) {
	t.Helper()
	if got, err := order.Load(l, set, dims); err != api.ErrArg || len(got) != 0 {
		t.Errorf("Load of %b with %d dimensions of %+v = %v, %d; want ErrArg", set, dims, l, got, err)
	}
}

// P11.4
func TestLoadHasItsExample(t *testing.T) {
	l := loaded([]int{2, 3}, []int{4, 0})
	wantLoad(t, l, 3, 2, 6, 3)
	wantLoad(t, l, 1, 2, 2, 3)
	wantLoad(t, l, 2, 2, 4, 0)
	wantLoad(t, l, 0, 2, 0, 0)
}

// P11.4: without orders there is a load for each number of dimensions.
func TestLoadOfTheEmptySet(t *testing.T) {
	for _, l := range [][]api.Order{nil, {}, loaded([]int{5}), loaded(nil, []int{1, 2, 3, 4}), {allWrong()}} {
		for dims := range 4 {
			wantLoad(t, l, 0, dims, make([]int, dims)...)
		}
		for _, dims := range []int{math.MinInt, -1 << 32, -2, -1, 4, 5, 1 << 32, 1<<32 + 1, math.MaxInt} {
			wantNoLoad(t, l, 0, dims)
		}
	}
}

// P11.4: the number of dimensions, of the loads in the set and outside of it.
func TestLoadCountsTheDimensions(t *testing.T) {
	for dims := -1; dims <= 5; dims++ {
		for first := range 6 {
			for second := range 6 {
				l := loaded(slices.Repeat([]int{2}, first), slices.Repeat([]int{3}, second), nil, []int{1, 2, 3, 4, 5, 6})
				wantEqual(t, l, 1, dims, first == dims, 2)
				wantEqual(t, l, 2, dims, second == dims, 3)
				wantEqual(t, l, 3, dims, first == dims && second == dims, 5)
				wantNoLoad(t, l, 3+8, dims)
			}
		}
	}
}

// wantEqual wants a load of equal numbers if it is right and dims is a number of dimensions.
func wantEqual(t *testing.T, l []api.Order, set, dims int, right bool, number int) {
	t.Helper()
	if right && isFrom(0, dims, 3) {
		wantLoad(t, l, set, dims, slices.Repeat([]int{number}, dims)...)
	} else {
		wantNoLoad(t, l, set, dims)
	}
}

// P11.4: a nil and an empty Load are the same.
func TestLoadWithoutDimensions(t *testing.T) {
	l := loaded(nil, []int{}, []int{0})
	wantLoad(t, l, 3, 0)
	wantNoLoad(t, l, 4, 0)
	wantNoLoad(t, l, 7, 0)
}

// P11.4: sets with any numbers, of lists of any length.
func TestLoadKnowsTheOrders(t *testing.T) {
	for _, count := range []int{0, 1, 2, 10, 11, 61, 62, 63, 64, 65, 200} {
		l := make([]api.Order, count)
		for i := range l {
			l[i].Load = []int{i + 1, 1}
		}
		for i := range 63 {
			if i < count {
				wantLoad(t, l, 1<<i, 2, i+1, 1)
			} else {
				wantNoLoad(t, l, 1<<i, 2)
				wantNoLoad(t, l, 1<<i|1, 2)
				wantNoLoad(t, l, 1<<i, -1)
			}
		}
		if count >= 63 {
			wantLoad(t, l, math.MaxInt, 2, 63*64/2, 63)
		} else {
			wantNoLoad(t, l, math.MaxInt, 2)
		}
		for _, set := range []int{-1, -2, -1 << 32, math.MinInt, math.MinInt + 1} {
			wantNoLoad(t, l, set, 2)
			wantNoLoad(t, l, set, 0)
			wantNoLoad(t, l, set, -1)
		}
	}
}

// P11.4: cancelled orders have their load, and no other field matters.
func TestLoadOfCancelledOrders(t *testing.T) {
	wrong := allWrong()
	wrong.Load, wrong.Off = []int{4, -9}, true
	l := []api.Order{parcel("a", 2, 3), wrong, parcel("a", 1, 1)}
	wantLoad(t, l, 2, 2, 4, -9)
	wantLoad(t, l, 7, 2, 7, -5)
	wantLoad(t, l, 5, 2, 3, 4)
}

// drawnLoads returns orders whose loads have numbers of all sizes for which Load is specified.
func drawnLoads(r *rand.Rand, count, dims int) []api.Order {
	l := make([]api.Order, count)
	for i := range l {
		for range dims {
			l[i].Load = append(l[i].Load, (r.Intn(1<<21+1)-1<<20)>>r.Intn(21))
		}
		if r.Intn(8) == 0 {
			l[i].Load = slices.Repeat([]int{[]int{-1 << 20, 1 << 20}[r.Intn(2)]}, dims)
		}
	}
	return l
}

// P11.4
func TestLoadAddsTheLoads(t *testing.T) {
	r := rand.New(rand.NewSource(118))
	for range 5000 {
		count, dims := r.Intn(64), r.Intn(4)
		l := drawnLoads(r, count, dims)
		set, want := 0, make([]int, dims)
		for i := range min(count, 63) {
			if r.Intn(2) == 0 {
				set += 1 << i
				for d := range dims {
					want[d] += l[i].Load[d]
				}
			}
		}
		wantLoad(t, l, set, dims, want...)
	}
	for _, x := range []int{-1 << 20, 1 << 20} {
		wantLoad(t, loaded(slices.Repeat([][]int{{x, -x, 0}}, 63)...), math.MaxInt, 3, 63*x, -63*x, 0)
	}
}

// P11.6: the load of two sets without a common order is the sum of their loads.
func TestLoadOfUnions(t *testing.T) {
	r := rand.New(rand.NewSource(119))
	check := func(l []api.Order, a, b, dims int) {
		t.Helper()
		first, firstErr := order.Load(l, a, dims)
		second, secondErr := order.Load(l, b, dims)
		if firstErr != api.OK || secondErr != api.OK || len(first) != dims || len(second) != dims {
			t.Fatalf("Load = %v, %d and %v, %d", first, firstErr, second, secondErr)
		}
		for d, x := range second {
			first[d] += x
		}
		wantLoad(t, l, a|b, dims, first...)
	}
	for dims := range 4 {
		l := drawnLoads(r, 5, dims)
		for a := range 32 {
			for b := range 32 {
				check(l, a, b&^a, dims)
			}
		}
	}
	for range 5000 {
		dims, a := r.Intn(4), r.Int()
		check(drawnLoads(r, 63, dims), a, r.Int()&^a, dims)
	}
}
