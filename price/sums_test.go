package price_test

import (
	"math"
	"math/rand"
	"testing"

	"lorry/api"
	"lorry/price"
)

func wantAdd(t *testing.T, a, b, want api.Score) {
	t.Helper()
	if price.Add(a, b) != want || price.Add(b, a) != want {
		t.Errorf("Add of %+v and %+v = %+v, and %+v the other way round; want %+v", a, b, price.Add(a, b), price.Add(b, a), want)
	}
}

func wantCompare(t *testing.T, a, b api.Score, want int) {
	t.Helper()
	if price.Compare(a, b) != want || price.Compare(b, a) != -want {
		t.Errorf("Compare of %+v and %+v = %d, and %d the other way round; want %d", a, b, price.Compare(a, b), price.Compare(b, a), want)
	}
}

// P20.3
func TestAddAddsEachNumber(t *testing.T) {
	wantAdd(t, api.Score{}, api.Score{}, api.Score{})
	wantAdd(t, score(5, 2, 0, 9), score(5, 3, 0, 0), score(10, 5, 0, 9))
	wantAdd(t, score(1, 2, 3, 4), score(10, 20, 30, 40), score(11, 22, 33, 44))
	wantAdd(t, score(1, 2, 3, 4), score(-1, -2, -3, -4), api.Score{})
	wantAdd(t, score(-1, 2, -3, 4), score(5, -7, -9, -11), score(4, -5, -12, -7))
	wantAdd(t, score(1<<30, 15, 15, 65535), score(1<<30, 15, 15, 65535), score(1<<31, 30, 30, 131070))
	wantAdd(t, score(0, 15, 15, 65535), score(0, 1, 1, 1), score(0, 16, 16, 65536))
	wantAdd(t, score(math.MaxInt, math.MinInt, math.MaxInt, math.MinInt), score(math.MinInt, math.MaxInt, 0, 0), score(-1, -1, math.MaxInt, math.MinInt))
	values := []int{math.MinInt / 2, -1 << 32, -1, 0, 1, 15, 16, 65535, 65536, 1 << 30, math.MaxInt / 2}
	for part := range 4 {
		for _, n := range values {
			for _, k := range values {
				a, b, want := score(1, 2, 3, 4), score(50, 60, 70, 80), score(51, 62, 73, 84)
				*field(&a, part), *field(&b, part), *field(&want, part) = n, k, n+k
				wantAdd(t, a, b, want)
			}
		}
	}
}

// P20.3
func TestAddOfDrawnScores(t *testing.T) {
	r := rand.New(rand.NewSource(2003))
	for range 5000 {
		var a, b, want api.Score
		for part := range 4 {
			n, k := r.Intn(1<<32)-1<<31, r.Intn(1<<20)-1<<19
			*field(&a, part), *field(&b, part), *field(&want, part) = n, k, n+k
		}
		wantAdd(t, a, b, want)
	}
}

// P20.3: scores that differ in a single number.
func TestCompareLooksAtEachNumber(t *testing.T) {
	for _, base := range []api.Score{{}, score(5, 2, 3, 9), score(-5, -2, -3, -9), score(1<<30, 15, 15, 65535)} {
		wantCompare(t, base, base, 0)
		for part := range 4 {
			for _, n := range numbers() {
				for _, k := range numbers() {
					a, b := base, base
					*field(&a, part), *field(&b, part) = n, k
					switch {
					case n < k:
						wantCompare(t, a, b, -1)
					case n == k:
						wantCompare(t, a, b, 0)
					}
				}
			}
		}
	}
}

// P20.3: scores that differ in two numbers, in opposite directions: the first one decides, however great the other difference is.
func TestCompareTakesTheFirstDifference(t *testing.T) {
	for first := range 4 {
		for later := first + 1; later < 4; later++ {
			for _, most := range []int{1, 16, 65536, 1 << 62} {
				a, b := score(5, 2, 3, 9), score(5, 2, 3, 9)
				*field(&a, first)--
				*field(&a, later) += most
				wantCompare(t, a, b, -1)
				*field(&b, later) -= most
				wantCompare(t, a, b, -1)
			}
		}
	}
	wantCompare(t, score(5, 2, 0, 9), score(5, 3, 0, 0), -1)
	wantCompare(t, score(1, 0, 0, 0), score(0, 15, 15, 65535), 1)
	wantCompare(t, score(1, 1, 0, 0), score(1, 0, 15, 65535), 1)
	wantCompare(t, score(1, 1, 1, 0), score(1, 1, 0, 65535), 1)
	wantCompare(t, score(0, 1, 0, 0), score(0, 0, 16, 65536), 1)
	wantCompare(t, score(0, -1, 0, 0), score(0, 0, -16, -65536), -1)
}

// P20.3: all pairs of small scores, and of drawn ones.
func TestCompareOfAllScores(t *testing.T) {
	l := scores(func(int) []int { return []int{-1, 0, 1} })
	l = append(l, scores(func(int) []int { return []int{math.MinInt, 7, math.MaxInt} })...)
	for _, a := range l {
		for _, b := range l {
			wantCompare(t, a, b, compareOf(a, b))
		}
	}
	r := rand.New(rand.NewSource(2004))
	for range 20000 {
		a, b := anyScore(r), anyScore(r)
		for part := range r.Intn(5) {
			*field(&b, part) = *field(&a, part)
		}
		wantCompare(t, a, b, compareOf(a, b))
	}
}
