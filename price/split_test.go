package price_test

import (
	"math"
	"math/rand"
	"testing"

	"lorry/api"
)

// P20.4
func TestSplitHasItsParts(t *testing.T) {
	for n, want := range map[int]api.Score{
		0: {}, 1: score(0, 0, 0, 1), 2: score(0, 0, 0, 2), 65534: score(0, 0, 0, 65534), 65535: score(0, 0, 0, 65535),
		65536: score(0, 0, 1, 0), 65537: score(0, 0, 1, 1), 131071: score(0, 0, 1, 65535), 131072: score(0, 0, 2, 0),
		1048575: score(0, 0, 15, 65535), 1048576: score(0, 1, 0, 0), 1048577: score(0, 1, 0, 1), 1048576 + 65536: score(0, 1, 1, 0), 2097151: score(0, 1, 15, 65535), 2097152: score(0, 2, 0, 0),
		16777215: score(0, 15, 15, 65535), 16777216: score(1, 0, 0, 0), 16777217: score(1, 0, 0, 1), 33554431: score(1, 15, 15, 65535), 33554432: score(2, 0, 0, 0),
		16777216 + 2*1048576 + 3*65536 + 4: score(1, 2, 3, 4), 838860800: score(50, 0, 0, 0), 4865392644: score(290, 0, 0, 4),
		1 << 31: score(128, 0, 0, 0), 1<<31 - 1: score(127, 15, 15, 65535), 1 << 32: score(256, 0, 0, 0), 1<<32 + 1: score(256, 0, 0, 1),
	} {
		wantSplit(t, n, want, api.OK)
	}
}

// P20.4: the greatest price with a right score has the Cost 2^30, as all prices from 2^54 on; the next one is refused.
func TestSplitLimitsThePrice(t *testing.T) {
	for n, want := range map[int]api.Score{
		1<<54 - 1: score(1<<30-1, 15, 15, 65535), 1 << 54: score(1<<30, 0, 0, 0), 1<<54 + 1: score(1<<30, 0, 0, 1),
		1<<54 + 65535: score(1<<30, 0, 0, 65535), 1<<54 + 65536: score(1<<30, 0, 1, 0), 1<<54 + 1048575: score(1<<30, 0, 15, 65535), 1<<54 + 1048576: score(1<<30, 1, 0, 0),
		1<<54 + 16777214: score(1<<30, 15, 15, 65534), 1<<54 + 16777215: score(1<<30, 15, 15, 65535),
	} {
		wantSplit(t, n, want, api.OK)
	}
	for _, n := range []int{1<<54 + 16777216, 1<<54 + 16777217, 1<<54 + 33554432, 1 << 55, 1<<56 + 1, 1 << 60, 1 << 62, math.MaxInt - 1, math.MaxInt} {
		wantSplit(t, n, api.Score{}, api.ErrSize)
	}
	for _, n := range []int{-1, -2, -65535, -65536, -16777216, -1 << 32, -1 << 54, math.MinInt + 1, math.MinInt} {
		wantSplit(t, n, api.Score{}, api.ErrArg)
	}
}

// P20.4: as the model has it, next to all powers of two, and for drawn prices.
func TestSplitOfDrawnPrices(t *testing.T) {
	for bit := range 63 {
		for _, n := range []int{1 << bit, 1<<54 + 1<<bit, 3 << bit, -1 << bit} {
			for _, n := range []int{n - 1, n, n + 1} {
				want, err := splitOf(n)
				wantSplit(t, n, want, err)
			}
		}
	}
	r := rand.New(rand.NewSource(2006))
	for range 30000 {
		n := int(r.Uint64()) >> r.Intn(64)
		want, err := splitOf(n)
		wantSplit(t, n, want, err)
		n = r.Intn(1<<54 + 1<<24)
		want, err = splitOf(n)
		if err != api.OK {
			t.Errorf("%d has no score", n)
		}
		wantSplit(t, n, want, api.OK)
	}
}
