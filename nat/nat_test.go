package nat_test

import (
	"math/big"
	"math/rand"
	"strings"
	"testing"

	"lorry/api"
	"lorry/nat"
)

// P2.1
func TestRightHasItsExamples(t *testing.T) {
	for _, s := range append(append(edgeNumbers(), longNumbers()...), tooLongNumbers()...) {
		if !nat.Right(s) {
			t.Errorf("Right(%.40q) is false", s)
		}
	}
	for _, s := range []string{"0", "907", strings.Repeat("1234567890", 100000)} {
		if !nat.Right(s) {
			t.Errorf("Right(%.40q) is false", s)
		}
	}
	for _, s := range append(wrongTexts(), strings.Repeat("1", 1<<20)+"-") {
		if nat.Right(s) {
			t.Errorf("Right(%.40q) is true", s)
		}
	}
}

func TestRightAcceptsOnlyDigits(t *testing.T) {
	for i := range 256 {
		c := string([]byte{byte(i)})
		digit := strings.Contains("0123456789", c)
		for s, want := range map[string]bool{c: digit, "1" + c: digit, "10" + c: digit, "1" + c + "0": digit, c + "1": digit && c != "0", "0" + c: false} {
			if nat.Right(s) != want {
				t.Errorf("Right(%q) is not %v", s, want)
			}
		}
	}
}

// P2.2
func TestCompareHasItsExamples(t *testing.T) {
	for _, c := range []struct {
		a, b string
		want int
	}{
		{"9", "10", -1}, {"10", "9", 1}, {"7", "7", 0}, {"0", "0", 0}, {"0", "1", -1}, {"1", "0", 1}, {"123", "132", -1}, {"213", "132", 1}, {"200", "199", 1},
		{strings.Repeat("9", 5000), power(5000), -1},
		{power(9000) + "1", power(9000) + "1", 0},
		{power(9000) + "1", power(9000) + "2", -1},
		{power(9001), power(9000) + "0", 0},
		{"2" + strings.Repeat("0", 9000), "1" + strings.Repeat("9", 9000), 1},
	} {
		if got := nat.Compare(c.a, c.b); got != c.want {
			t.Errorf("Compare(%.40s, %.40s) = %d; want %d", c.a, c.b, got, c.want)
		}
	}
}

func TestCompareIsTheOrderOfNumbers(t *testing.T) {
	eachPair(func(a, b string) {
		if got, want := nat.Compare(a, b), number(a).Cmp(number(b)); got != want {
			t.Fatalf("Compare(%.80s, %.80s) = %d; want %d", a, b, got, want)
		}
	})
}

func TestCompareIsZeroForWrongTexts(t *testing.T) {
	for _, s := range wrongTexts() {
		for _, other := range append(wrongTexts(), "0", "5", power(20), tooLongNumbers()[0]) {
			if nat.Compare(s, other) != 0 || nat.Compare(other, s) != 0 {
				t.Errorf("Compare of %.40q and %.40q is not 0", s, other)
			}
		}
	}
}

// P2.3
func TestAddHasItsExamples(t *testing.T) {
	nines := strings.Repeat("9", api.MaxDigits)
	want(t, "Add", nat.Add, "999", "1", "1000", api.OK)
	want(t, "Add", nat.Add, "0", "0", "0", api.OK)
	want(t, "Add", nat.Add, "0", "907", "907", api.OK)
	want(t, "Add", nat.Add, "1", strings.Repeat("9", 4000), power(4000), api.OK)
	want(t, "Add", nat.Add, "1", nines[1:], power(api.MaxDigits-1), api.OK)
	want(t, "Add", nat.Add, nines[1:]+"8", "1", nines, api.OK)
	want(t, "Add", nat.Add, nines, "0", nines, api.OK)
	want(t, "Add", nat.Add, nines, "1", "", api.ErrSize)
	want(t, "Add", nat.Add, nines, nines, "", api.ErrSize)
	want(t, "Add", nat.Add, "1", "01", "", api.ErrForm)
	wantCommonErrors(t, "Add", nat.Add)
}

func TestAddReturnsSums(t *testing.T) {
	eachPair(func(a, b string) {
		wantBig(t, "Add", nat.Add, a, b, new(big.Int).Add(number(a), number(b)))
	})
}

// P2.3
func TestSubHasItsExamples(t *testing.T) {
	want(t, "Sub", nat.Sub, "1000", "1", "999", api.OK)
	want(t, "Sub", nat.Sub, "0", "0", "0", api.OK)
	want(t, "Sub", nat.Sub, "907", "0", "907", api.OK)
	want(t, "Sub", nat.Sub, power(4000), "1", strings.Repeat("9", 4000), api.OK)
	want(t, "Sub", nat.Sub, power(4000)+"7", power(4000), "9"+strings.Repeat("0", 3999)+"7", api.OK)
	want(t, "Sub", nat.Sub, power(4000), power(4000), "0", api.OK)
	want(t, "Sub", nat.Sub, "1", "2", "", api.ErrArg)
	want(t, "Sub", nat.Sub, "0", "1", "", api.ErrArg)
	want(t, "Sub", nat.Sub, strings.Repeat("9", 4000), power(4000), "", api.ErrArg)
	want(t, "Sub", nat.Sub, "1", power(api.MaxDigits), "", api.ErrSize)
	want(t, "Sub", nat.Sub, "1", power(api.MaxDigits)+"x", "", api.ErrForm)
	wantCommonErrors(t, "Sub", nat.Sub)
}

func TestSubReturnsDifferences(t *testing.T) {
	eachPair(func(a, b string) {
		if number(a).Cmp(number(b)) < 0 {
			want(t, "Sub", nat.Sub, a, b, "", api.ErrArg)
		} else {
			wantBig(t, "Sub", nat.Sub, a, b, new(big.Int).Sub(number(a), number(b)))
		}
	})
}

// P2.4
func TestMulHasItsExamples(t *testing.T) {
	half := strings.Repeat("9", api.MaxDigits/2)
	want(t, "Mul", nat.Mul, "12", "34", "408", api.OK)
	want(t, "Mul", nat.Mul, "0", "34", "0", api.OK)
	want(t, "Mul", nat.Mul, "34", "0", "0", api.OK)
	want(t, "Mul", nat.Mul, "0", "0", "0", api.OK)
	want(t, "Mul", nat.Mul, "1", strings.Repeat("9", api.MaxDigits), strings.Repeat("9", api.MaxDigits), api.OK)
	want(t, "Mul", nat.Mul, strings.Repeat("9", api.MaxDigits), "0", "0", api.OK)
	want(t, "Mul", nat.Mul, strings.Repeat("9", api.MaxDigits), "2", "", api.ErrSize)
	want(t, "Mul", nat.Mul, half, half, half[1:]+"8"+strings.Repeat("0", api.MaxDigits/2-1)+"1", api.OK)
	want(t, "Mul", nat.Mul, power(2000), power(2095), power(4095), api.OK)
	want(t, "Mul", nat.Mul, power(2000), power(2096), "", api.ErrSize)
	wantCommonErrors(t, "Mul", nat.Mul)
}

func TestMulReturnsProducts(t *testing.T) {
	eachPair(func(a, b string) {
		wantBig(t, "Mul", nat.Mul, a, b, new(big.Int).Mul(number(a), number(b)))
	})
}

// P2.5
func TestDivHasItsExamples(t *testing.T) {
	for _, c := range [][4]string{
		{"100", "7", "14", "2"},
		{"0", "7", "0", "0"},
		{"6", "7", "0", "6"},
		{"7", "7", "1", "0"},
		{"7", "1", "7", "0"},
		{"8", "7", "1", "1"},
		{"5", power(4000), "0", "5"},
		{power(4000), "5", "2" + strings.Repeat("0", 3999), "0"},
		{power(4095), strings.Repeat("9", 4095), "1", "1"},
	} {
		want(t, "quotient", quotient, c[0], c[1], c[2], api.OK)
		want(t, "remainder", remainder, c[0], c[1], c[3], api.OK)
	}
	for _, a := range []string{"0", "5", power(4000)} {
		want(t, "quotient", quotient, a, "0", "", api.ErrZero)
		want(t, "remainder", remainder, a, "0", "", api.ErrZero)
	}
	want(t, "quotient", quotient, tooLongNumbers()[0], "0", "", api.ErrSize)
	want(t, "quotient", quotient, "01", "0", "", api.ErrForm)
	wantCommonErrors(t, "quotient", quotient)
	wantCommonErrors(t, "remainder", remainder)
}

func TestDivReturnsQuotientsAndRemainders(t *testing.T) {
	eachPair(func(a, b string) {
		if b != "0" {
			q, r := new(big.Int).QuoRem(number(a), number(b), new(big.Int))
			wantBig(t, "quotient", quotient, a, b, q)
			wantBig(t, "remainder", remainder, a, b, r)
		}
	})
}

// The guesses of quotients are wrong most easily if the dividend is close to a multiple of the divisor.
func TestDivIsExactNearMultiples(t *testing.T) {
	r := rand.New(rand.NewSource(3))
	for range 30000 {
		b := new(big.Int).Add(number(drawn(r, 50)), big.NewInt(1))
		a := new(big.Int).Mul(b, number(drawn(r, 50)))
		a.Add(a, big.NewInt(int64(r.Intn(3)-1)))
		if a.Sign() < 0 {
			continue
		}
		q, rest := new(big.Int).QuoRem(a, b, new(big.Int))
		wantBig(t, "quotient", quotient, a.String(), b.String(), q)
		wantBig(t, "remainder", remainder, a.String(), b.String(), rest)
	}
}

// P2.6
func TestGcdHasItsExamples(t *testing.T) {
	long := strings.Repeat("9", api.MaxDigits)
	want(t, "Gcd", nat.Gcd, "12", "18", "6", api.OK)
	want(t, "Gcd", nat.Gcd, "18", "12", "6", api.OK)
	want(t, "Gcd", nat.Gcd, "0", "5", "5", api.OK)
	want(t, "Gcd", nat.Gcd, "5", "0", "5", api.OK)
	want(t, "Gcd", nat.Gcd, "0", "0", "0", api.OK)
	want(t, "Gcd", nat.Gcd, "1", long, "1", api.OK)
	want(t, "Gcd", nat.Gcd, long, long, long, api.OK)
	want(t, "Gcd", nat.Gcd, "0", long, long, api.OK)
	want(t, "Gcd", nat.Gcd, long, "0", long, api.OK)
	wantCommonErrors(t, "Gcd", nat.Gcd)
}

func TestGcdReturnsCommonDivisors(t *testing.T) {
	check := func(a, b string) {
		wantBig(t, "Gcd", nat.Gcd, a, b, new(big.Int).GCD(nil, nil, number(a), number(b)))
	}
	eachPair(check)
	r := rand.New(rand.NewSource(4))
	for range 5000 {
		a, b, c := number(drawn(r, 40)), number(drawn(r, 40)), number(drawn(r, 40))
		check(new(big.Int).Mul(a, c).String(), new(big.Int).Mul(b, c).String())
	}
}

// The greatest number of divisions is needed for successive numbers of Fibonacci.
func TestGcdEndsForTheLongestChain(t *testing.T) {
	a, b := big.NewInt(0), big.NewInt(1)
	for len(b.String()) <= api.MaxDigits {
		a.Add(a, b)
		a, b = b, a
	}
	want(t, "Gcd", nat.Gcd, new(big.Int).Sub(b, a).String(), a.String(), "1", api.OK)
}

// P2.3 to P2.6: the errors that all functions have in common, in their order.
func wantCommonErrors(t *testing.T, name string, f operation) {
	t.Helper()
	rights := append(append([]string{"0", "1", "907", power(30)}, longNumbers()...), tooLongNumbers()...)
	for _, s := range wrongTexts() {
		for _, other := range append(wrongTexts(), rights...) {
			want(t, name, f, s, other, "", api.ErrForm)
			want(t, name, f, other, s, "", api.ErrForm)
		}
	}
	for _, s := range tooLongNumbers() {
		for _, other := range rights {
			want(t, name, f, s, other, "", api.ErrSize)
			want(t, name, f, other, s, "", api.ErrSize)
		}
	}
}

// P2.7
func TestResultsAgreeWithEachOther(t *testing.T) {
	do := func(f operation, a, b string) string {
		s, e := f(a, b)
		if e != api.OK || !nat.Right(s) || len(s) > api.MaxDigits {
			t.Fatalf("%.80q, %d of %.80s and %.80s", s, e, a, b)
		}
		return s
	}
	same := func(law, a, b string) {
		if a != b {
			t.Errorf("%s: %.80s and %.80s", law, a, b)
		}
	}
	r := rand.New(rand.NewSource(5))
	for i := range 3000 {
		size := 30 + i%8*250
		a, b, c := drawn(r, size), drawn(r, size), drawn(r, size)
		total := do(nat.Add, a, b)
		same("Sub undoes Add", do(nat.Sub, total, b), a)
		same("Add is commutative", do(nat.Add, b, a), total)
		same("Mul is distributive", do(nat.Mul, total, c), do(nat.Add, do(nat.Mul, a, c), do(nat.Mul, b, c)))
		if b != "0" {
			rest := do(remainder, a, b)
			same("Mul undoes Div", do(nat.Add, do(nat.Mul, do(quotient, a, b), b), rest), a)
			if nat.Compare(rest, b) >= 0 {
				t.Errorf("remainder %.80s of %.80s and %.80s", rest, a, b)
			}
			divisor := do(nat.Gcd, a, b)
			same("Gcd divides", do(remainder, a, divisor)+do(remainder, b, divisor), "00")
		}
	}
}
