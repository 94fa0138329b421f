package price_test

import (
	"math/rand"
	"testing"

	"lorry/api"
	"lorry/internal/sample"
	"lorry/price"
)

// parcels returns a valid instance with an order for each pair of a Penalty and a Now.
func parcels(l ...[2]int) api.Instance {
	var served [][2]int
	for _, one := range l {
		served = append(served, [2]int{one[1], 0})
	}
	x := town(served...)
	for i, one := range l {
		x.Orders[i].Penalty = one[0]
	}
	return x
}

// P20.2: the Penalty, and the type to which the order is assigned.
func TestUnservedHasThePenalty(t *testing.T) {
	for _, penalty := range []int{0, 1, 2, 50, 63, 64, 1000, 999999, 1000000} {
		for now, moved := range map[int]int{-1: 0, 0: 1, 1: 1, 2: 1} {
			x := parcels([2]int{penalty, now})
			wantValid(t, x)
			wantUnserved(t, x, 0, score(penalty, moved, 0, 0), api.OK)
			for _, last := range []int{-1, 0, 1, 2} {
				x.Orders[0].Last = last
				wantUnserved(t, x, 0, score(penalty, moved, 0, 0), api.OK)
			}
			x.Types = nil
			wantUnserved(t, x, 0, score(penalty, moved, 0, 0), api.OK)
		}
	}
}

// P20.2: of several orders, the one with the number.
func TestUnservedOfEachOrder(t *testing.T) {
	x := parcels([2]int{7, -1}, [2]int{-1, 1}, [2]int{9, 1}, [2]int{0, 2}, [2]int{-1, -1}, [2]int{1000000, 0})
	x.Orders[2].Off = true
	wantValid(t, x)
	wantUnserved(t, x, 0, score(7, 0, 0, 0), api.OK)
	wantUnserved(t, x, 1, api.Score{}, api.ErrMissing)
	wantUnserved(t, x, 2, api.Score{}, api.ErrState)
	wantUnserved(t, x, 3, score(0, 1, 0, 0), api.OK)
	wantUnserved(t, x, 4, api.Score{}, api.ErrMissing)
	wantUnserved(t, x, 5, score(1000000, 1, 0, 0), api.OK)
	for _, n := range numbers(0, 6) {
		if n < 0 || n > 5 {
			wantUnserved(t, x, n, api.Score{}, api.ErrArg)
		}
		wantUnserved(t, api.Instance{Types: x.Types}, n, api.Score{}, api.ErrArg)
	}
}

// P20.2: the errors in their order: a cancelled order is one whatever its Penalty is.
func TestUnservedOrdersItsErrors(t *testing.T) {
	for _, penalty := range []int{-1, 0, 50, 1000000} {
		for _, now := range []int{-1, 0, 2} {
			x := parcels([2]int{penalty, now}, [2]int{50, -1})
			x.Orders[0].Off = true
			wantValid(t, x)
			wantUnserved(t, x, 0, api.Score{}, api.ErrState)
			wantUnserved(t, x, 1, score(50, 0, 0, 0), api.OK)
			wantUnserved(t, x, 2, api.Score{}, api.ErrArg)
			wantUnserved(t, x, -1, api.Score{}, api.ErrArg)
			x.Orders[0].Off, x.Orders[1].Off = false, true
			wantUnserved(t, x, 1, api.Score{}, api.ErrState)
			if penalty == -1 {
				wantUnserved(t, x, 0, api.Score{}, api.ErrMissing)
			}
		}
	}
}

// P20.2: the instance need not be valid; all Penalties but -1 are ones, and all types to which an order is assigned but -1.
func TestUnservedOfInvalidInstances(t *testing.T) {
	for _, n := range numbers(0, 1000000) {
		if n != -1 {
			wantUnserved(t, parcels([2]int{n, -1}), 0, score(n, 0, 0, 0), api.OK)
			wantUnserved(t, parcels([2]int{0, n}), 0, score(0, 1, 0, 0), api.OK)
		}
		wantUnserved(t, parcels([2]int{-1, n}), 0, api.Score{}, api.ErrMissing)
	}
	wantUnserved(t, api.Instance{Orders: make([]api.Order, 100)}, 99, score(0, 1, 0, 0), api.OK)
	wantUnserved(t, api.Instance{Orders: make([]api.Order, 100)}, 100, api.Score{}, api.ErrArg)
}

// P20.2: as the model has it, for drawn instances.
func TestUnservedOfDrawnInstances(t *testing.T) {
	r := rand.New(rand.NewSource(2002))
	seen := map[api.Errno]int{}
	for range 2000 {
		x := sample.Draw(r, 10, 1+r.Intn(api.MaxOrders))
		sample.Rate(r, &x)
		wantValid(t, x)
		for order := -2; order < len(x.Orders)+2; order++ {
			want, err := unservedOf(x, order)
			wantUnserved(t, x, order, want, err)
			seen[err]++
			if err != api.OK {
				continue
			}
			// It is right, so that it has a price.
			s, _ := price.Unserved(x, order)
			wantWeight(t, s, (s.Cost*16+s.Moved)*16*65536, api.OK)
		}
	}
	for _, err := range []api.Errno{api.OK, api.ErrArg, api.ErrState, api.ErrMissing} {
		if seen[err] < 500 {
			t.Errorf("Unserved returns the error %d %d times", err, seen[err])
		}
	}
}
