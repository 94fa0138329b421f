package price_test

import (
	"cmp"
	"math/rand"
	"testing"

	"lorry/api"
	"lorry/internal/sample"
	"lorry/price"
)

// weighed returns the price of a right score.
func weighed(t *testing.T, s api.Score) int {
	t.Helper()
	n, err := price.Weight(s)
	if err != api.OK {
		t.Errorf("Weight of %+v = %d, %d", s, n, err)
	}
	return n
}

// P20.5: Split undoes Weight.
func TestSplitUndoesWeight(t *testing.T) {
	for _, s := range edges() {
		wantSplit(t, weighed(t, s), s, api.OK)
	}
	r := rand.New(rand.NewSource(2007))
	for range 20000 {
		s := drawnScore(r)
		wantSplit(t, weighed(t, s), s, api.OK)
	}
}

// P20.5: so each price is that of its score alone.
func TestWeightUndoesSplit(t *testing.T) {
	r := rand.New(rand.NewSource(2008))
	for i := range 40000 {
		n := []int{i, 1<<54 + 1<<24 - 1 - i, r.Intn(1 << 54), 1<<24*r.Intn(1<<30) + i%5, r.Intn(1 << 30)}[i%5]
		s, err := price.Split(n)
		if err != api.OK {
			t.Errorf("Split of %d = %+v, %d", n, s, err)
		}
		wantWeight(t, s, n, api.OK)
	}
}

// wantSums looks at what P20.5 says of two right scores.
func wantSums(t *testing.T, a, b api.Score) bool {
	t.Helper()
	m, n := weighed(t, a), weighed(t, b)
	wantCompare(t, a, b, cmp.Compare(m, n))
	sum := price.Add(a, b)
	if !isRight(sum) {
		wantWeight(t, sum, 0, api.ErrSize)
		return false
	}
	wantWeight(t, sum, m+n, api.OK)
	return true
}

// P20.5: right scores are compared as their prices are, and the price of a sum that is right is the sum of the prices.
func TestPricesOfSums(t *testing.T) {
	sums := map[bool]int{}
	for _, a := range scores(func(part int) []int { return []int{0, 1, greatest(part)/2 + 1, greatest(part)} }) {
		for _, b := range edges() {
			sums[wantSums(t, a, b)]++
		}
	}
	r := rand.New(rand.NewSource(2009))
	for range 40000 {
		a, b := drawnScore(r), drawnScore(r)
		for part := range r.Intn(4) {
			*field(&b, part) = *field(&a, part)
		}
		if r.Intn(2) == 0 {
			b = rest(r, a)
		}
		sums[wantSums(t, a, b)]++
	}
	if sums[false] < 10000 || sums[true] < 10000 {
		t.Errorf("%v sums are right", sums)
	}
}

// rest returns a right score whose sum with another one is right, too, often just so.
func rest(r *rand.Rand, a api.Score) api.Score {
	var b api.Score
	for part := range 4 {
		most := greatest(part) - *field(&a, part)
		*field(&b, part) = sample.OneOf(r, most, r.Intn(most+1))
	}
	return b
}

// P20.5: as for the routes and the orders of a plan.
func TestPricesOfRoutes(t *testing.T) {
	r := rand.New(rand.NewSource(2010))
	for range 1000 {
		sum, prices := api.Score{}, 0
		for range 4 {
			x, one, s := drawnTrip(r)
			a := price.Route(x, one, s)
			if b, err := price.Unserved(x, r.Intn(len(x.Orders))); err == api.OK && a.Moved < 15 {
				a = price.Add(a, b)
			}
			if next := price.Add(sum, a); isRight(next) {
				wantSums(t, sum, a)
				sum, prices = next, prices+weighed(t, a)
			}
		}
		wantWeight(t, sum, prices, api.OK)
	}
}
