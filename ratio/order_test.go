package ratio_test

import (
	"math/big"
	"math/rand"
	"testing"

	"lorry/api"
	"lorry/ratio"
)

func wantOrder(t *testing.T, a, b api.Rat, want int) {
	t.Helper()
	if got := ratio.Compare(a, b); got != want {
		t.Errorf("Compare(%.80s, %.80s) = %d; want %d", a, b, got, want)
	}
	if got := ratio.Compare(b, a); got != -want {
		t.Errorf("Compare(%.80s, %.80s) = %d; want %d", b, a, got, -want)
	}
}

// P4.2
func TestCompareHasItsExamples(t *testing.T) {
	for _, c := range []struct {
		a, b api.Rat
		want int
	}{
		{"1/3", "1/2", -1}, {"-1/3", "-1/2", 1}, {"7", "7", 0}, {"0", "0", 0}, {"-1/2", "1/2", -1}, {"0", "1/9", -1}, {"0", "-1/9", 1}, {"-7/2", "-7/2", 0}, {"10", "9", 1}, {"-10", "9", -1}, {"7/2", "3", 1}, {"2/3", "3/4", -1},
	} {
		wantOrder(t, c.a, c.b, c.want)
	}
}

// P4.2
func TestCompareIsTheOrderOfNumbers(t *testing.T) {
	eachPair(func(a, b api.Rat) {
		wantOrder(t, a, b, number(a).Cmp(number(b)))
	})
}

// neighbours are pairs of numbers that differ as little as is possible: the products that tell them apart differ by 1.
func neighbours(most int) [][2]api.Rat {
	limit := integer(tens(most))
	a, b, c := big.NewInt(1), big.NewInt(1), big.NewInt(2)
	for {
		next := new(big.Int).Add(b, c)
		if next.Cmp(limit) >= 0 {
			break
		}
		a, b, c = b, c, next
	}
	n := new(big.Int).Sub(limit, big.NewInt(1))
	below, belowThat := new(big.Int).Sub(n, big.NewInt(1)), new(big.Int).Sub(n, big.NewInt(2))
	frac := func(p, q *big.Int) api.Rat { return textOf(new(big.Rat).SetFrac(p, q)) }
	return [][2]api.Rat{
		{frac(a, b), frac(b, c)}, {frac(b, a), frac(c, b)},
		{frac(belowThat, below), frac(below, n)}, {frac(below, belowThat), frac(n, below)},
		{frac(big.NewInt(1), below), frac(big.NewInt(1), n)}, {frac(below, big.NewInt(1)), frac(n, big.NewInt(1))},
	}
}

// P4.2: right numbers of any size.
func TestCompareTellsNeighboursApart(t *testing.T) {
	for _, most := range []int{1, 8, 9, 10, 18, 19, 100, 1024, 2049, 2060, 3072, api.MaxDigits} {
		for _, pair := range neighbours(most) {
			want := number(pair[0]).Cmp(number(pair[1]))
			wantOrder(t, pair[0], pair[1], want)
			wantOrder(t, "-"+pair[0], "-"+pair[1], -want)
			wantOrder(t, "-"+pair[0], pair[1], -1)
			wantOrder(t, pair[0], pair[0], 0)
		}
	}
}

// P4.2: products that are too long for Mul do not hinder Compare.
func TestCompareOfLongNumbers(t *testing.T) {
	r := rand.New(rand.NewSource(48))
	for range 12 {
		a, b := drawn(r, api.MaxDigits), drawn(r, api.MaxDigits)
		wantOrder(t, a, b, number(a).Cmp(number(b)))
		wantOrder(t, b, "-2/3", number(b).Cmp(big.NewRat(-2, 3)))
		wantOrder(t, a, "0", number(a).Sign())
	}
	for _, a := range longRats() {
		for _, b := range longRats() {
			if a < b {
				wantOrder(t, a, b, number(a).Cmp(number(b)))
			}
		}
	}
}

// P4.2
func TestCompareIsZeroForOtherTexts(t *testing.T) {
	for _, a := range wrongRats() {
		for _, b := range append(longRats()[:3], "0", "5", "-5", "-1/3", "2/4", "x", tooLongRats()[0], tooLongRats()[1]) {
			if ratio.Compare(a, b) != 0 || ratio.Compare(b, a) != 0 {
				t.Errorf("Compare of %.80q and %.80q is not 0", a, b)
			}
		}
	}
}

// P4.2: Compare(a, b) is Sign(Sub(a, b)), where that has no error.
func TestCompareIsTheSignOfTheDifference(t *testing.T) {
	eachPair(func(a, b api.Rat) {
		d, e := ratio.Sub(a, b)
		if e == api.OK && ratio.Compare(a, b) != ratio.Sign(d) {
			t.Errorf("Compare(%.80s, %.80s) = %d, but the difference is %.80s", a, b, ratio.Compare(a, b), d)
		}
	})
}

// P4.2: Compare is an order.
func TestCompareIsTotal(t *testing.T) {
	l := append(smallRats(), edgeRats()...)
	r := rand.New(rand.NewSource(49))
	for range 20000 {
		a, b, c := l[r.Intn(len(l))], l[r.Intn(len(l))], l[r.Intn(len(l))]
		if (ratio.Compare(a, b) == 0) != (a == b) {
			t.Errorf("Compare of %s and %s", a, b)
		}
		if ratio.Compare(a, b) <= 0 && ratio.Compare(b, c) <= 0 && ratio.Compare(a, c) > 0 {
			t.Errorf("Compare is not transitive: %s, %s, %s", a, b, c)
		}
	}
}

// P4.2
func TestSignIsThatOfTheNumber(t *testing.T) {
	for _, a := range allRats() {
		if got, want := ratio.Sign(a), number(a).Sign(); got != want {
			t.Errorf("Sign(%.80s) = %d; want %d", a, got, want)
		}
	}
	for a, want := range map[api.Rat]int{"-1/2": -1, "0": 0, "1/2": 1, "-7": -1, "7": 1} {
		if got := ratio.Sign(a); got != want {
			t.Errorf("Sign(%s) = %d; want %d", a, got, want)
		}
	}
	for _, a := range wrongRats() {
		if ratio.Sign(a) != 0 {
			t.Errorf("Sign(%.80q) is not 0", a)
		}
	}
}

func wantNext(t *testing.T, a api.Rat, floor, ceil string, err api.Errno) {
	t.Helper()
	if s, e := ratio.Floor(a); s != floor || e != err {
		t.Errorf("Floor(%.80s) = %.80s, %d; want %.80s, %d", a, s, e, floor, err)
	}
	if s, e := ratio.Ceil(a); s != ceil || e != err {
		t.Errorf("Ceil(%.80s) = %.80s, %d; want %.80s, %d", a, s, e, ceil, err)
	}
}

// checkNext compares Floor and Ceil with another implementation.
func checkNext(t *testing.T, a api.Rat) {
	t.Helper()
	x := number(a)
	// Div rounds down for a divisor that is positive.
	floor := new(big.Int).Div(x.Num(), x.Denom())
	ceil := new(big.Int).Set(floor)
	if !x.IsInt() {
		ceil.Add(ceil, big.NewInt(1))
	}
	wantNext(t, a, floor.String(), ceil.String(), api.OK)
}

// P4.2
func TestFloorAndCeilAreTheNextIntegers(t *testing.T) {
	for _, a := range allRats() {
		checkNext(t, a)
	}
	r := rand.New(rand.NewSource(50))
	for i := range 4000 {
		checkNext(t, drawn(r, []int{2, 9, 20, 60}[i%4]))
	}
	for p := int64(-60); p <= 60; p++ {
		for q := int64(1); q <= 12; q++ {
			checkNext(t, textOf(big.NewRat(p, q)))
		}
	}
}

// P4.2
func TestFloorAndCeilHaveTheirExamples(t *testing.T) {
	long := nines(api.MaxDigits)
	for a, want := range map[api.Rat][2]string{
		"-3/2": {"-2", "-1"}, "3/2": {"1", "2"}, "5": {"5", "5"}, "-5": {"-5", "-5"}, "0": {"0", "0"}, "-1/7": {"-1", "0"}, "1/7": {"0", "1"}, "1997/2": {"998", "999"},
		api.Rat(long): {long, long}, api.Rat("-" + long): {"-" + long, "-" + long}, api.Rat("1/" + long): {"0", "1"}, api.Rat("-1/" + long): {"-1", "0"},
		api.Rat("-" + long + "/2"): {"-5" + tens(api.MaxDigits - 1)[1:], "-4" + long[1:]},
	} {
		wantNext(t, a, want[0], want[1], api.OK)
	}
}

// P4.2
func TestFloorAndCeilRefuseOtherTexts(t *testing.T) {
	for _, a := range wrongRats() {
		wantNext(t, a, "", "", api.ErrForm)
	}
}

// P4.2: Floor(a) is at most a, and less than 1 below it; Ceil(a) is -Floor(-a).
func TestFloorAndCeilHaveTheirLaws(t *testing.T) {
	for _, a := range append(smallRats(), edgeRats()...) {
		floor, _ := ratio.Floor(a)
		rest, e := ratio.Sub(a, api.Rat(floor))
		if e != api.OK || ratio.Sign(rest) < 0 || ratio.Compare(rest, "1") >= 0 {
			t.Errorf("Floor(%s) = %s", a, floor)
		}
		minus, _ := ratio.Sub("0", a)
		floor, _ = ratio.Floor(minus)
		opposite, _ := ratio.Sub("0", api.Rat(floor))
		if ceil, _ := ratio.Ceil(a); api.Rat(ceil) != opposite {
			t.Errorf("Ceil(%s) = %s, but -Floor(%s) = %s", a, ceil, minus, opposite)
		}
	}
}
