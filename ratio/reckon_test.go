package ratio_test

import (
	"math/big"
	"math/rand"
	"strconv"
	"strings"
	"testing"

	"lorry/api"
	"lorry/ratio"
)

// P4.1
func TestReckoningHasItsExamples(t *testing.T) {
	for _, c := range []struct {
		o          operation
		a, b, want api.Rat
	}{
		{addition, "1/2", "1/3", "5/6"}, {addition, "1/2", "1/2", "1"}, {addition, "-1/2", "1/2", "0"}, {addition, "0", "0", "0"}, {addition, "1/6", "1/3", "1/2"}, {addition, "-7", "3/4", "-25/4"},
		{subtraction, "1/2", "1/3", "1/6"}, {subtraction, "1/2", "1/2", "0"}, {subtraction, "1/3", "1/2", "-1/6"}, {subtraction, "0", "-2/3", "2/3"}, {subtraction, "0", "2/3", "-2/3"}, {subtraction, "5", "-5", "10"},
		{multiplication, "2/3", "3/4", "1/2"}, {multiplication, "-2/3", "0", "0"}, {multiplication, "0", "0", "0"}, {multiplication, "-2/3", "-3/2", "1"}, {multiplication, "-2/3", "6", "-4"},
		{division, "1/2", "-1/4", "-2"}, {division, "0", "-1/4", "0"}, {division, "0", "5", "0"}, {division, "-3/4", "-3/4", "1"}, {division, "2", "-6", "-1/3"}, {division, "1/3", "2", "1/6"},
	} {
		c.o.want(t, c.a, c.b, c.want, api.OK)
	}
}

// P4.1
func TestReckoningIsExact(t *testing.T) {
	eachPair(func(a, b api.Rat) {
		for _, o := range operations {
			o.check(t, a, b)
		}
	})
}

// P4.1: at the limit, the other implementation tells which of the named integers are too long.
func TestReckoningAtTheLimit(t *testing.T) {
	r := rand.New(rand.NewSource(46))
	half := func() *big.Int {
		n := integer(nines(api.MaxDigits/2 - 2 + r.Intn(5)))
		n.Sub(n, new(big.Int).Abs(drawnInteger(r, api.MaxDigits/2-1)))
		if r.Intn(2) == 0 {
			n.Neg(n)
		}
		return n
	}
	for range 40 {
		a, b := textOf(new(big.Rat).SetFrac(half(), half())), textOf(new(big.Rat).SetFrac(half(), half()))
		for _, o := range operations {
			o.check(t, a, b)
		}
	}
}

// P4.1
func TestReckoningRefusesWrongArguments(t *testing.T) {
	others := append(longRats()[:4], "0", "1", "-1/2", "1/3000000000000000000000")
	for _, o := range operations {
		for _, a := range wrongRats() {
			for _, b := range append(others, "2/4", "x", tooLongRats()[0]) {
				o.want(t, a, b, "", api.ErrForm)
				o.want(t, b, a, "", api.ErrForm)
			}
		}
	}
	for _, a := range append(allRats(), "0") {
		division.want(t, a, "0", "", api.ErrZero)
	}
}

// sizeCase is a pair of numbers, of whose named integers exactly one has one digit too many.
type sizeCase struct {
	o    operation
	a, b string
	long int // which of the named integers
	fits bool
}

// sizeCases are at first those of Add, with p * s, r * q, their sum and q * s, then those of Mul, with p * r and q * s.
func sizeCases() []sizeCase {
	most, half := api.MaxDigits, api.MaxDigits/2
	zeros := strings.Repeat("0", most-2)
	product := tens(half)
	threes, coprime := strings.Repeat("3", half+1), tens(half-1)+"1"
	return []sizeCase{
		{addition, "5" + zeros + "0", "-1/2", 0, true},
		{addition, "5" + zeros + "0", "-" + nines(most) + "/2", 0, true},
		{addition, "-1/2", "5" + zeros + "0", 1, true},
		{addition, "-" + nines(most) + "/2", "5" + zeros + "0", 1, true},
		{addition, nines(most), "1", 2, false},
		{addition, "5" + zeros + "0", "5" + zeros + "0", 2, false},
		{addition, "-" + nines(most), "-" + nines(most), 2, false},
		{addition, "3" + zeros + "1/2", "3" + zeros + "1/2", 2, true},
		{addition, "3" + zeros + "1/2", "3" + zeros + "3/2", 2, true},
		{addition, "1/" + product, "1/" + product, 3, true},
		{addition, "1/" + product, "-1/" + product, 3, true},
		{addition, "1/" + product, "1/" + coprime, 3, false},
		{multiplication, product, product, 0, false},
		{multiplication, "-" + nines(most), "2", 0, false},
		{multiplication, nines(most), "2/3", 0, true},
		{multiplication, product + "/3", nines(half+1) + "/10", 0, true},
		{multiplication, "1/" + product, "1/" + product, 1, false},
		{multiplication, "3/" + product, "10/" + threes, 1, true},
		{multiplication, "4/" + nines(most), "3/2", 1, true},
	}
}

// check makes sure that the case is what it should be, and refuses it, also with other signs and orders.
func (c sizeCase) check(t *testing.T) {
	t.Helper()
	a, b := number(api.Rat(c.a)), number(api.Rat(c.b))
	for i, n := range c.o.named(a, b) {
		if i == c.long && digits(n) != api.MaxDigits+1 || i != c.long && digits(n) > api.MaxDigits {
			t.Fatalf("%s(%.20s, %.20s): the named integer %d has %d digits", c.o.name, c.a, c.b, i, digits(n))
		}
	}
	s := c.o.other(a, b)
	if fits := digits(s.Num()) <= api.MaxDigits && digits(s.Denom()) <= api.MaxDigits; fits != c.fits {
		t.Fatalf("%s(%.20s, %.20s): fits is %v", c.o.name, c.a, c.b, fits)
	}
	minusA, minusB := new(big.Rat).Neg(a), new(big.Rat).Neg(b)
	c.o.want(t, textOf(a), textOf(b), "", api.ErrSize)
	c.o.want(t, textOf(b), textOf(a), "", api.ErrSize)
	c.o.want(t, textOf(minusA), textOf(minusB), "", api.ErrSize)
	if c.o.name == "Add" {
		subtraction.want(t, textOf(a), textOf(minusB), "", api.ErrSize)
		subtraction.want(t, textOf(minusA), textOf(b), "", api.ErrSize)
		return
	}
	division.want(t, textOf(a), textOf(b.Inv(b)), "", api.ErrSize)
	division.want(t, textOf(minusA), textOf(b), "", api.ErrSize)
}

// P4.1: one integer with one digit too many is an error, also where the reduced result would fit.
func TestReckoningRefusesOneLongInteger(t *testing.T) {
	seen := map[string]bool{}
	for _, c := range sizeCases() {
		c.check(t)
		seen[c.o.name+strconv.Itoa(c.long)] = true
	}
	if len(seen) != 6 {
		t.Errorf("only these integers have cases: %v", seen)
	}
}

// P4.1: with one digit less there is no error.
func TestReckoningReachesTheLimit(t *testing.T) {
	most, half := api.MaxDigits, api.MaxDigits/2
	for _, c := range []struct {
		o    operation
		a, b string
	}{
		{addition, nines(most), "0"}, {addition, nines(most-1) + "8", "1"}, {addition, "4" + nines(most-1), "1/2"}, {addition, "1/" + tens(half), "1/" + tens(half-1)}, {addition, "1/" + nines(most), "0"}, {addition, nines(most), "-1"},
		{subtraction, nines(most), "1"}, {subtraction, "-" + nines(most-1) + "8", "1"}, {subtraction, nines(most) + "/2", "4" + nines(most-1)}, {subtraction, "0", "1/" + nines(most)},
		{multiplication, tens(half), tens(half - 1)}, {multiplication, nines(half), nines(half)}, {multiplication, "-1/" + tens(half), "7/" + tens(half-1)}, {multiplication, nines(most), "-1"}, {multiplication, nines(most), "1/" + tens(most-1)},
		{division, tens(half), "3/" + tens(half-1)}, {division, "1/" + nines(half), "-" + nines(half)}, {division, nines(most), nines(most)}, {division, "1", nines(most)}, {division, "1", "1/" + nines(most)},
	} {
		a, b := api.Rat(c.a), api.Rat(c.b)
		if _, e := c.o.expected(a, b); e != api.OK {
			t.Fatalf("%s(%.20s, %.20s) is expected to be %d", c.o.name, c.a, c.b, e)
		}
		c.o.check(t, a, b)
	}
}

// same reports a law that does not hold.
func same(t *testing.T, law string, a, b, left, right api.Rat) {
	t.Helper()
	if left != right {
		t.Errorf("%s of %.80s and %.80s: %.80s and %.80s", law, a, b, left, right)
	}
}

// P4.1: the laws of the section Promises.
func TestReckoningHasItsLaws(t *testing.T) {
	eachPair(func(a, b api.Rat) {
		sum, e := ratio.Add(a, b)
		swapped, f := ratio.Add(b, a)
		same(t, "Add", a, b, sum, swapped)
		if back, g := ratio.Sub(sum, b); e == api.OK && g == api.OK {
			same(t, "Sub inverts Add", a, b, back, a)
		}
		product, g := ratio.Mul(a, b)
		swapped, h := ratio.Mul(b, a)
		same(t, "Mul", a, b, product, swapped)
		if back, i := ratio.Div(product, b); g == api.OK && i == api.OK {
			same(t, "Div inverts Mul", a, b, back, a)
		}
		if e != f || g != h || e == api.OK && !ratio.Right(sum) || g == api.OK && !ratio.Right(product) {
			t.Errorf("%.80s and %.80s: %d, %d; %d, %d; %.80s; %.80s", a, b, e, f, g, h, sum, product)
		}
	})
}
