package split_test

import (
	"math"
	"math/rand"
	"slices"
	"testing"

	"lorry/api"
	"lorry/split"
)

// routes returns lists of shares, one for each route.
func routes(l ...shares) []shares { return l }

// served returns the shares that serve each order of a town wholly, one on each route.
func served(orders int) []shares {
	var l []shares
	for i := range orders {
		l = append(l, shares{share(i, 7, 2)})
	}
	return l
}

// P15.3
func TestWholeAddsTheSharesOfAllRoutes(t *testing.T) {
	x := divided()
	wantWhole(t, x, served(3), nil, api.OK)
	wantWhole(t, x, routes(shares{share(0, 7, 2), share(1, 7, 2), share(2, 7, 2)}), nil, api.OK)
	wantWhole(t, x, routes(shares{share(2, 7, 0)}, nil, shares{share(0, 3, 1), share(1, 7, 2)}, shares{share(0, 4, 1), share(2, 0, 2)}), nil, api.OK)
	// Shares need not be those of parts, nor ascending, nor one for each order of a route.
	wantWhole(t, x, routes(shares{share(1, 1, 2), share(1, 6, 0), share(0, 7, 2), share(2, 7, 0), share(0, 0, 0), share(2, 0, 2)}), nil, api.OK)
	wantWhole(t, town(), nil, nil, api.OK)
	wantWhole(t, town(), routes(nil, nil), nil, api.OK)
}

// P15.3: sums that are too great or too small in a single dimension.
func TestWholeComparesEachDimension(t *testing.T) {
	for at := range 3 {
		for _, c := range []struct {
			load     []int
			want     api.Errno
			unserved api.Errno
		}{
			{[]int{7, 2}, api.OK, api.OK},
			{[]int{6, 2}, api.ErrMissing, api.OK}, {[]int{7, 1}, api.ErrMissing, api.OK}, {[]int{0, 2}, api.ErrMissing, api.OK}, {[]int{7, 0}, api.ErrMissing, api.OK}, {[]int{0, 0}, api.ErrMissing, api.OK},
			{[]int{8, 2}, api.ErrLoad, api.ErrLoad}, {[]int{7, 3}, api.ErrLoad, api.ErrLoad}, {[]int{1000, 1000}, api.ErrLoad, api.ErrLoad},
			// More in one dimension and less in another one.
			{[]int{6, 3}, api.ErrLoad, api.ErrLoad}, {[]int{8, 1}, api.ErrLoad, api.ErrLoad}, {[]int{8, 0}, api.ErrLoad, api.ErrLoad}, {[]int{0, 1000}, api.ErrLoad, api.ErrLoad},
		} {
			l := served(3)
			l[at][0].Load = c.load
			wantWhole(t, divided(), l, nil, c.want)
			wantWhole(t, divided(), l, []int{at}, c.unserved)
			// The sum of two shares.
			l[at][0].Load = []int{c.load[0] / 2, c.load[1]}
			l = append(l, shares{share(at, c.load[0]-c.load[0]/2, 0)})
			wantWhole(t, divided(), l, nil, c.want)
		}
	}
}

// P15.3: an order of one or three dimensions.
func TestWholeOfOtherDimensions(t *testing.T) {
	x := town(2)
	x.Types[0].Cap, x.Types[1].Cap, x.Orders[0].Load = []int{1}, []int{1}, []int{1000}
	wantWhole(t, x, routes(shares{share(0, 500)}, shares{share(0, 500)}), nil, api.OK)
	wantWhole(t, x, routes(shares{share(0, 500)}, shares{share(0, 499)}), nil, api.ErrMissing)
	wantWhole(t, x, routes(shares{share(0, 500)}, shares{share(0, 501)}), nil, api.ErrLoad)
	x.Types[0].Cap, x.Types[1].Cap, x.Orders[0].Load = []int{1, 1, 1}, []int{1, 1, 1}, []int{0, 1000, 5}
	wantWhole(t, x, routes(shares{share(0, 0, 1000, 5)}), nil, api.OK)
	for d := range 3 {
		load := []int{0, 1000, 5}
		load[d]++
		want := api.ErrLoad
		if load[d] > 1000 {
			want = api.ErrArg
		}
		wantWhole(t, x, routes(shares{share(0, load...)}), nil, want)
		wantWhole(t, x, routes(shares{share(0, 0, 1000, 5)}, shares{share(0, slices.Insert([]int{0, 0}, d, 1)...)}), nil, api.ErrLoad)
		if load[d] -= 2; load[d] >= 0 {
			wantWhole(t, x, routes(shares{share(0, load...)}), nil, api.ErrMissing)
		}
	}
}

// P15.3: of an order without a share nothing is served; if its load has nothing, this is not less.
func TestWholeOfOrdersWithoutShares(t *testing.T) {
	x := divided()
	wantWhole(t, x, nil, nil, api.ErrMissing)
	wantWhole(t, x, routes(nil, shares{}), nil, api.ErrMissing)
	wantWhole(t, x, nil, []int{0, 1}, api.ErrMissing)
	wantWhole(t, x, nil, []int{0, 1, 2}, api.OK)
	for at := range 3 {
		wantWhole(t, x, slices.Delete(served(3), at, at+1), nil, api.ErrMissing)
		wantWhole(t, x, slices.Delete(served(3), at, at+1), []int{at}, api.OK)
		wantWhole(t, x, slices.Delete(served(3), at, at+1), []int{(at + 1) % 3}, api.ErrMissing)
	}
	x.Orders[1].Load = []int{0, 0}
	wantWhole(t, x, routes(shares{share(0, 7, 2), share(2, 7, 2)}), nil, api.OK)
	wantWhole(t, x, routes(shares{share(0, 7, 2), share(1, 0, 0), share(2, 7, 2)}), nil, api.OK)
	wantWhole(t, x, routes(shares{share(0, 7, 2), share(1, 0, 1), share(2, 7, 2)}), nil, api.ErrLoad)
}

// P15.3: a cancelled order need not be served, but not more of it than there is can be.
func TestWholeOfCancelledOrders(t *testing.T) {
	x := divided()
	x.Orders[1].Off = true
	for _, unserved := range [][]int{nil, {1}, {1, 1}} {
		wantWhole(t, x, served(3), unserved, api.OK)
		wantWhole(t, x, slices.Delete(served(3), 1, 2), unserved, api.OK)
		wantWhole(t, x, routes(shares{share(0, 7, 2), share(1, 3, 0), share(2, 7, 2)}), unserved, api.OK)
		wantWhole(t, x, routes(shares{share(0, 7, 2), share(1, 8, 0), share(2, 7, 2)}), unserved, api.ErrLoad)
		wantWhole(t, x, served(1), unserved, api.ErrMissing)
		wantWhole(t, x, served(2), unserved, api.ErrMissing)
	}
}

// P15.3: elements of unserved that do not exist, wherever they are; one can be there twice.
func TestWholeChecksUnserved(t *testing.T) {
	x := divided()
	for _, number := range anyInts() {
		for _, unserved := range [][]int{{number}, {0, number}, {number, 2}, {1, 1, number, 1}} {
			want := api.OK
			if number < 0 || number >= 3 {
				want = api.ErrArg
			}
			wantWhole(t, x, served(3), unserved, want)
		}
	}
	wantWhole(t, x, served(2), []int{2, 2, 2}, api.OK)
	wantWhole(t, x, nil, []int{2, 0, 1, 0, 2}, api.OK)
	wantWhole(t, x, served(2), []int{0, 0, 1}, api.ErrMissing)
	wantWhole(t, town(), nil, []int{0}, api.ErrArg)
	wantWhole(t, x, served(3), slices.Repeat([]int{2, 0, 1}, 50000), api.OK)
}

// P15.3: shares of orders that do not exist.
func TestWholeChecksTheOrdersOfShares(t *testing.T) {
	x := divided()
	for _, number := range anyInts() {
		if number >= 0 && number < 3 {
			continue
		}
		for at := range 3 {
			l := served(3)
			l[at] = append(l[at], share(number, 0, 0))
			wantWhole(t, x, l, nil, api.ErrArg)
			l[at] = shares{share(number, 7, 2), l[at][0]}
			wantWhole(t, x, l, nil, api.ErrArg)
		}
		wantWhole(t, x, routes(nil, shares{share(number)}), []int{0, 1, 2}, api.ErrArg)
	}
}

// P15.3: loads with too few and too many dimensions, and with numbers that no load has.
func TestWholeChecksTheLoadsOfShares(t *testing.T) {
	x := divided()
	free := []int{0, 1, 2}
	for number := range 3 {
		for size := range 40 {
			want := api.ErrArg
			if size == 2 {
				want = api.OK
			}
			wantWhole(t, x, routes(shares{share(number, make([]int, size)...)}), free, want)
		}
		for _, c := range []struct {
			number int
			want   api.Errno
		}{{0, api.OK}, {1, api.OK}, {3, api.ErrLoad}, {999, api.ErrLoad}, {1000, api.ErrLoad}, {1001, api.ErrArg}, {-1, api.ErrArg}, {-2, api.ErrArg}, {math.MinInt, api.ErrArg}, {math.MaxInt, api.ErrArg}, {1 << 32, api.ErrArg}} {
			wantWhole(t, x, routes(nil, shares{share(number, 0, c.number)}), free, c.want)
			wantWhole(t, x, routes(shares{share(0, 0, 0), share(number, 0, c.number)}, nil), free, c.want)
			if c.want == api.ErrArg {
				wantWhole(t, x, routes(shares{share(number, c.number, 0)}), free, c.want)
				// A sum that is right does not help.
				wantWhole(t, x, routes(shares{share(number, c.number, 0), share(number, -c.number, 0)}), free, c.want)
			}
		}
	}
	x.Orders[0].Load = []int{1000, 1000}
	wantWhole(t, x, routes(shares{share(0, 1000, 1000)}), free, api.OK)
	wantWhole(t, x, routes(shares{share(0, 1000, 1000)}, shares{share(0, 0, 1)}), free, api.ErrLoad)
}

// P15.3, R2: wrong arguments first, then the first order that has an error.
func TestWholeReturnsTheFirstError(t *testing.T) {
	x := divided()
	less, more := share(0, 6, 2), share(1, 8, 2)
	wantWhole(t, x, routes(shares{less}, shares{more}), nil, api.ErrMissing)
	wantWhole(t, x, routes(shares{more}, shares{less}), nil, api.ErrMissing)
	wantWhole(t, x, routes(shares{less}, shares{more}), []int{0}, api.ErrLoad)
	wantWhole(t, x, routes(shares{share(0, 8, 2)}, shares{share(1, 6, 2)}), nil, api.ErrLoad)
	wantWhole(t, x, routes(shares{share(0, 7, 2)}, shares{share(2, 7, 3)}), nil, api.ErrMissing)
	wantWhole(t, x, routes(shares{share(0, 7, 2)}, shares{share(2, 7, 3)}), []int{1}, api.ErrLoad)
	for _, wrong := range []split.Share{share(3, 7, 2), share(-1, 7, 2), share(0, 7), share(1, 7, 2, 0), share(2, -1, 2), share(0, 7, 1001)} {
		wantWhole(t, x, routes(shares{less, more, wrong}), nil, api.ErrArg)
		wantWhole(t, x, routes(shares{wrong}, shares{more, less}), nil, api.ErrArg)
		wantWhole(t, x, routes(shares{wrong}), []int{0, 1, 2}, api.ErrArg)
		wantWhole(t, x, routes(shares{wrong, more}), []int{-1}, api.ErrArg)
	}
	wantWhole(t, x, routes(shares{less}, shares{more}), []int{0, 3}, api.ErrArg)
}

// P15.3: sums of many shares.
func TestWholeAddsManyShares(t *testing.T) {
	x := divided()
	x.Orders[1].Load = []int{1000, 999}
	ones := slices.Repeat(shares{share(1, 1, 1)}, 999)
	l := append(served(1), ones, shares{share(1, 1, 0)}, shares{share(2, 7, 2)})
	wantWhole(t, x, l, nil, api.OK)
	wantWhole(t, x, append(l, slices.Repeat(shares{share(0, 0, 0), share(1, 0, 0)}, 50000)), nil, api.OK)
	wantWhole(t, x, append(l, slices.Repeat(shares{share(0, 0, 0)}, 50000), shares{share(1, 0, 1)}), nil, api.ErrLoad)
	wantWhole(t, x, append(l[:1:1], ones[1:], shares{share(2, 7, 2)}), nil, api.ErrMissing)
	wantWhole(t, x, append(l, slices.Repeat(shares{share(2, 1000, 1000)}, 100000)), nil, api.ErrLoad)
	var one []shares
	for i := range 30000 {
		one = append(one, shares{share(i%3, 0, 0)})
	}
	wantWhole(t, x, one, []int{0, 1, 2}, api.OK)
	wantWhole(t, x, one, nil, api.ErrMissing)
	wantWhole(t, x, append(one, l...), nil, api.OK)
}

// P15.3: Whole does not need the expanded instance, so that there can be shares of an instance without one.
func TestWholeDoesNotExpand(t *testing.T) {
	for _, x := range []api.Instance{town(4, 4, 3), named([]string{fifteen, sixteen, "a"}, 2, 2, 2), named([]string{"a_1", "a", "b"}, 2, 2, 1)} {
		wantWhole(t, x, served(3), nil, api.OK)
		wantWhole(t, x, served(2), nil, api.ErrMissing)
		wantWhole(t, x, append(served(3), served(2)...), nil, api.ErrLoad)
	}
}

// drawnShares returns shares that serve orders wholly or nearly, of which some can be wrong.
func drawnShares(r *rand.Rand, x api.Instance) []shares {
	l := make([]shares, 1+r.Intn(4))
	add := func(s split.Share) {
		at := r.Intn(len(l))
		l[at] = append(l[at], s)
	}
	for i, o := range x.Orders {
		for _, load := range modelLoads(o.Load, 1+r.Intn(3)) {
			if r.Intn(30) == 0 {
				d := r.Intn(len(load))
				load[d] = max(0, load[d]+r.Intn(3)-1)
			}
			if r.Intn(40) > 0 {
				add(share(i, load...))
			}
		}
	}
	if r.Intn(4) == 0 {
		return changed(r, l)
	}
	return l
}

// P15.3: any shares of any valid instances.
func TestWholeFollowsTheModel(t *testing.T) {
	r := rand.New(rand.NewSource(1504))
	seen := make(map[api.Errno]int)
	for range 20000 {
		x := drawn(r)
		l, unserved := drawnShares(r, x), []int(nil)
		for range r.Intn(4) {
			unserved = append(unserved, r.Intn(len(x.Orders)+1)-r.Intn(2))
		}
		want := modelWhole(x, l, unserved)
		wantWhole(t, x, l, unserved, want)
		seen[want]++
	}
	for _, err := range []api.Errno{api.OK, api.ErrArg, api.ErrLoad, api.ErrMissing} {
		if seen[err] < 500 {
			t.Errorf("the error %d was there %d times", err, seen[err])
		}
	}
}
