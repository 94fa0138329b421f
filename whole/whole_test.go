package whole_test

import (
	"math/big"
	"math/rand"
	"strings"
	"testing"

	"lorry/api"
	"lorry/whole"
)

// nines is the greatest integer that is not too long.
var nines = strings.Repeat("9", api.MaxDigits)

// P3.2
func TestNegReturnsOpposites(t *testing.T) {
	for _, s := range append(edgeIntegers(), longIntegers()...) {
		wantUnary(t, "Neg", whole.Neg, s, new(big.Int).Neg(number(s)).String(), api.OK)
	}
	for s, opposite := range map[string]string{"0": "0", "17": "-17", "-17": "17", nines: "-" + nines, "-" + nines: nines} {
		wantUnary(t, "Neg", whole.Neg, s, opposite, api.OK)
	}
	wantUnaryErrors(t, "Neg", whole.Neg)
}

// P3.2
func TestAbsReturnsAbsoluteValues(t *testing.T) {
	for _, s := range append(edgeIntegers(), longIntegers()...) {
		wantUnary(t, "Abs", whole.Abs, s, new(big.Int).Abs(number(s)).String(), api.OK)
	}
	for s, value := range map[string]string{"0": "0", "17": "17", "-17": "17", nines: nines, "-" + nines: nines} {
		wantUnary(t, "Abs", whole.Abs, s, value, api.OK)
	}
	wantUnaryErrors(t, "Abs", whole.Abs)
}

func wantUnaryErrors(t *testing.T, name string, f func(s string) (string, api.Errno)) {
	t.Helper()
	for _, s := range wrongTexts() {
		wantUnary(t, name, f, s, "", api.ErrForm)
	}
	for _, s := range tooLongIntegers() {
		wantUnary(t, name, f, s, "", api.ErrSize)
	}
}

// P3.2
func TestAddHasItsExamples(t *testing.T) {
	for _, c := range [][3]string{
		{"3", "5", "8"}, {"3", "-5", "-2"}, {"-3", "5", "2"}, {"-3", "-5", "-8"}, {"5", "-3", "2"}, {"-5", "3", "-2"},
		{"0", "0", "0"}, {"0", "-4", "-4"}, {"-4", "0", "-4"}, {"7", "-7", "0"}, {"-7", "7", "0"}, {"-1000", "1", "-999"}, {"999", "1", "1000"},
		{nines, "0", nines}, {"-" + nines, "1", "-" + nines[1:] + "8"}, {nines, "-" + nines, "0"}, {"-" + nines, "0", "-" + nines},
	} {
		want(t, "Add", whole.Add, c[0], c[1], c[2], api.OK)
	}
	for _, c := range [][2]string{{nines, "1"}, {"1", nines}, {"-" + nines, "-1"}, {"-1", "-" + nines}, {nines, nines}, {"-" + nines, "-" + nines}} {
		want(t, "Add", whole.Add, c[0], c[1], "", api.ErrSize)
	}
	wantCommonErrors(t, "Add", whole.Add)
}

func TestAddReturnsSums(t *testing.T) {
	eachPair(func(a, b string) {
		wantBig(t, "Add", whole.Add, a, b, new(big.Int).Add(number(a), number(b)))
	})
}

// P3.2
func TestSubHasItsExamples(t *testing.T) {
	for _, c := range [][3]string{
		{"3", "5", "-2"}, {"3", "-5", "8"}, {"-3", "5", "-8"}, {"-3", "-5", "2"}, {"5", "3", "2"}, {"-5", "-3", "-2"},
		{"0", "0", "0"}, {"0", "-4", "4"}, {"0", "4", "-4"}, {"4", "0", "4"}, {"-4", "0", "-4"}, {"7", "7", "0"}, {"-7", "-7", "0"}, {"1000", "1", "999"},
		{nines, "1", nines[1:] + "8"}, {nines, nines, "0"}, {"-" + nines, "-" + nines, "0"}, {"0", nines, "-" + nines}, {"0", "-" + nines, nines},
	} {
		want(t, "Sub", whole.Sub, c[0], c[1], c[2], api.OK)
	}
	for _, c := range [][2]string{{nines, "-1"}, {"-" + nines, "1"}, {"1", "-" + nines}, {"-1", nines}, {nines, "-" + nines}, {"-" + nines, nines}} {
		want(t, "Sub", whole.Sub, c[0], c[1], "", api.ErrSize)
	}
	wantCommonErrors(t, "Sub", whole.Sub)
}

func TestSubReturnsDifferences(t *testing.T) {
	eachPair(func(a, b string) {
		wantBig(t, "Sub", whole.Sub, a, b, new(big.Int).Sub(number(a), number(b)))
	})
}

// P3.3
func TestMulHasItsExamples(t *testing.T) {
	for _, c := range [][3]string{
		{"3", "5", "15"}, {"3", "-5", "-15"}, {"-3", "5", "-15"}, {"-3", "-5", "15"}, {"0", "0", "0"}, {"0", "-4", "0"}, {"-4", "0", "0"}, {"4", "0", "0"}, {"-1", "-1", "1"},
		{nines, "1", nines}, {nines, "-1", "-" + nines}, {"-" + nines, "-1", nines}, {"-" + nines, "0", "0"}, {"-" + power(2000), power(2095), "-" + power(4095)},
	} {
		want(t, "Mul", whole.Mul, c[0], c[1], c[2], api.OK)
	}
	for _, c := range [][2]string{{nines, "2"}, {nines, "-2"}, {"-2", nines}, {"-" + nines, "-" + nines}, {power(2000), power(2096)}, {"-" + power(2000), power(2096)}} {
		want(t, "Mul", whole.Mul, c[0], c[1], "", api.ErrSize)
	}
	wantCommonErrors(t, "Mul", whole.Mul)
}

func TestMulReturnsProducts(t *testing.T) {
	eachPair(func(a, b string) {
		wantBig(t, "Mul", whole.Mul, a, b, new(big.Int).Mul(number(a), number(b)))
	})
}

// P3.4
func TestDivHasItsExamples(t *testing.T) {
	for _, c := range [][4]string{
		{"7", "2", "3", "1"}, {"-7", "2", "-4", "1"}, {"7", "-2", "-4", "-1"}, {"-7", "-2", "3", "-1"},
		{"6", "3", "2", "0"}, {"-6", "3", "-2", "0"}, {"6", "-3", "-2", "0"}, {"-6", "-3", "2", "0"},
		{"1", "10", "0", "1"}, {"-1", "10", "-1", "9"}, {"1", "-10", "-1", "-9"}, {"-1", "-10", "0", "-1"},
		{"0", "5", "0", "0"}, {"0", "-5", "0", "0"}, {"-5", "5", "-1", "0"}, {"5", "-5", "-1", "0"},
		{nines, "-1", "-" + nines, "0"}, {"-" + nines, "-1", nines, "0"}, {"-1", nines, "-1", nines[1:] + "8"}, {"1", "-" + nines, "-1", "-" + nines[1:] + "8"},
		{"-" + nines, "2", "-5" + strings.Repeat("0", api.MaxDigits-1), "1"}, {nines, "-2", "-5" + strings.Repeat("0", api.MaxDigits-1), "-1"},
	} {
		wantQuotient(t, c[0], c[1], c[2], c[3], api.OK)
	}
}

func TestDivRefusesWrongArguments(t *testing.T) {
	for _, a := range []string{"0", "5", "-5", nines, "-" + nines} {
		wantQuotient(t, a, "0", "", "", api.ErrZero)
	}
	for _, a := range tooLongIntegers() {
		wantQuotient(t, a, "0", "", "", api.ErrSize)
	}
	for _, a := range wrongTexts() {
		wantQuotient(t, a, "0", "", "", api.ErrForm)
	}
	wantCommonErrors(t, "quotient", func(a, b string) (string, api.Errno) {
		q, _, e := whole.Div(a, b)
		return q, e
	})
	wantCommonErrors(t, "remainder", func(a, b string) (string, api.Errno) {
		_, r, e := whole.Div(a, b)
		return r, e
	})
}

// wantFloor compares Div with another implementation.
func wantFloor(t *testing.T, a, b *big.Int) {
	t.Helper()
	q, r := new(big.Int).QuoRem(a, b, new(big.Int))
	if r.Sign() != 0 && r.Sign() != b.Sign() {
		q.Sub(q, big.NewInt(1))
		r.Add(r, b)
	}
	wantQuotient(t, a.String(), b.String(), q.String(), r.String(), api.OK)
}

func TestDivRoundsDown(t *testing.T) {
	eachPair(func(a, b string) {
		if b != "0" {
			wantFloor(t, number(a), number(b))
		}
	})
}

func TestDivIsExactNearMultiples(t *testing.T) {
	r := rand.New(rand.NewSource(6))
	for range 10000 {
		b := number(drawn(r, 40))
		if b.Sign() == 0 {
			continue
		}
		a := new(big.Int).Mul(b, number(drawn(r, 40)))
		wantFloor(t, a.Add(a, big.NewInt(int64(r.Intn(3)-1))), b)
	}
}

// P3.2 to P3.4: the errors that all functions have in common, in their order.
func wantCommonErrors(t *testing.T, name string, f operation) {
	t.Helper()
	rights := append(append(longIntegers(), tooLongIntegers()...), "0", "1", "-1", "907", "-907", power(30))
	for _, s := range wrongTexts() {
		for _, other := range append(wrongTexts(), rights...) {
			want(t, name, f, s, other, "", api.ErrForm)
			want(t, name, f, other, s, "", api.ErrForm)
		}
	}
	for _, s := range tooLongIntegers() {
		for _, other := range rights {
			want(t, name, f, s, other, "", api.ErrSize)
			want(t, name, f, other, s, "", api.ErrSize)
		}
	}
}

// P3.5
func TestIntegersAreARing(t *testing.T) {
	eachTriple(func(a, b, c string) {
		add := func(a, b string) string { return do(t, whole.Add, a, b) }
		mul := func(a, b string) string { return do(t, whole.Mul, a, b) }
		same(t, "Add is commutative", add(a, b), add(b, a))
		same(t, "Add is associative", add(add(a, b), c), add(a, add(b, c)))
		same(t, "Mul is commutative", mul(a, b), mul(b, a))
		same(t, "Mul is associative", mul(mul(a, b), c), mul(a, mul(b, c)))
		same(t, "Mul is distributive", mul(add(a, b), c), add(mul(a, c), mul(b, c)))
		same(t, "Sub inverts Add", do(t, whole.Sub, add(a, b), b), a)
		same(t, "Add inverts Sub", add(do(t, whole.Sub, a, b), b), a)
	})
}

// P3.6
func TestQuotientsAndRemaindersGiveTheDividend(t *testing.T) {
	check := func(a, b string) {
		if b == "0" {
			return
		}
		q, r, e := whole.Div(a, b)
		if e != api.OK || !whole.Right(q) || !whole.Right(r) {
			t.Fatalf("Div(%.80s, %.80s) = %.80q, %.80q, %d", a, b, q, r, e)
		}
		same(t, "Mul and Add invert Div", do(t, whole.Add, do(t, whole.Mul, q, b), r), a)
		if r != "0" && whole.Sign(r) != whole.Sign(b) || number(r).CmpAbs(number(b)) >= 0 {
			t.Errorf("remainder %.80s of %.80s and %.80s", r, a, b)
		}
	}
	eachTriple(func(a, b, c string) {
		check(a, b)
		check(do(t, whole.Mul, a, b), c)
	})
	for n := range 61 {
		for k := range 61 {
			check(whole.Of(n-30), whole.Of(k-30))
		}
	}
}
