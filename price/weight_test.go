package price_test

import (
	"math"
	"math/rand"
	"testing"

	"lorry/api"
)

// P20.4: the examples of the chapter.
func TestWeightHasItsExamples(t *testing.T) {
	wantWeight(t, api.Score{}, 0, api.OK)
	wantWeight(t, score(1, 0, 0, 0), 16777216, api.OK)
	wantWeight(t, score(0, 1, 0, 0), 1048576, api.OK)
	wantWeight(t, score(0, 0, 1, 0), 65536, api.OK)
	wantWeight(t, score(0, 0, 0, 1), 1, api.OK)
	wantWeight(t, score(50, 0, 0, 0), 838860800, api.OK)
	wantWeight(t, score(1, 2, 3, 4), 16777216+2*1048576+3*65536+4, api.OK)
	wantWeight(t, score(290, 0, 0, 4), 4865392644, api.OK)
	wantWeight(t, score(0, 15, 15, 65535), 16777215, api.OK)
	wantWeight(t, score(1<<30, 0, 0, 0), 1<<54, api.OK)
	wantWeight(t, score(1<<30, 15, 15, 65535), 1<<54+16777215, api.OK)
	wantWeight(t, score(1<<30-1, 15, 15, 65535), 1<<54-1, api.OK)
}

// P20.4: each number alone, from below its least value to above its greatest one.
func TestWeightLimitsEachNumber(t *testing.T) {
	for part, factor := range []int{16777216, 1048576, 65536, 1} {
		most := greatest(part)
		for _, n := range numbers(0, most) {
			var s api.Score
			*field(&s, part) = n
			switch {
			case n < 0:
				wantWeight(t, s, 0, api.ErrArg)
			case n > most:
				wantWeight(t, s, 0, api.ErrSize)
			default:
				wantWeight(t, s, n*factor, api.OK)
			}
		}
	}
}

// P20.4: of a number that is negative and one that is too great, the negative one decides, whatever their order is.
func TestWeightOrdersItsErrors(t *testing.T) {
	for negative := range 4 {
		for great := range 4 {
			if negative == great {
				continue
			}
			for _, n := range []int{-1, -2, -65536, math.MinInt} {
				for _, k := range []int{greatest(great) + 1, 1 << 40, math.MaxInt} {
					s := score(5, 2, 3, 9)
					*field(&s, great) = k
					wantWeight(t, s, 0, api.ErrSize)
					*field(&s, negative) = n
					wantWeight(t, s, 0, api.ErrArg)
				}
			}
		}
	}
}

// P20.4: all numbers at their limits, and beyond them, together.
func TestWeightOfAllLimits(t *testing.T) {
	seen := map[api.Errno]int{}
	for _, s := range scores(func(part int) []int {
		most := greatest(part)
		return []int{math.MinInt, -1, 0, 1, most - 1, most, most + 1, math.MaxInt}
	}) {
		want, err := weightOf(s)
		wantWeight(t, s, want, err)
		seen[err]++
	}
	if seen[api.OK] != 256 || seen[api.ErrSize] != 1296-256 || seen[api.ErrArg] != 4096-1296 {
		t.Errorf("%v", seen)
	}
}

// P20.4: as the formula has it, for drawn scores, right ones and others.
func TestWeightOfDrawnScores(t *testing.T) {
	r := rand.New(rand.NewSource(2005))
	for range 20000 {
		s := drawnScore(r)
		want, err := weightOf(s)
		if err != api.OK {
			t.Errorf("%+v is not right", s)
		}
		wantWeight(t, s, want, api.OK)
		s = anyScore(r)
		want, err = weightOf(s)
		wantWeight(t, s, want, err)
	}
}
