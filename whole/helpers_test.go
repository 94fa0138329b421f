package whole_test

import (
	"math/big"
	"math/rand"
	"slices"
	"strings"
	"testing"

	"lorry/api"
	"lorry/whole"
)

// wrongTexts are not right, for various reasons.
func wrongTexts() []string {
	return []string{
		"", "-", "--", "-0", "00", "-00", "01", "-01", "--1", "1-", "-1-", "+1", "+0", "-+1", "+-1", "1a", "-a", "-1a", "a-1",
		" 1", "1 ", "- 1", " -1", "-1 ", "1 2", "1.", "1.0", "-1.0", "1/2", "-1/2", "1_000", "0x1", "-0x1", "1e3", "١", "-١", "−1", "1\n", "-1\n", "-1\x00", "\xff", "-\xff",
		"0" + strings.Repeat("1", 9), "-" + strings.Repeat("0", api.MaxDigits+1), "--" + power(api.MaxDigits), "-" + strings.Repeat("9", api.MaxDigits+1) + "x",
	}
}

// power returns the power of ten with n zeros.
func power(n int) string {
	return "1" + strings.Repeat("0", n)
}

// bothSigns returns texts, and those of the opposite integers.
func bothSigns(digits ...string) []string {
	l := slices.Clone(digits)
	for _, s := range digits {
		if s != "0" {
			l = append(l, "-"+s)
		}
	}
	return l
}

// longIntegers have as many digits as a limit allows, or nearly as many.
func longIntegers() []string {
	return bothSigns(
		strings.Repeat("9", api.MaxDigits),
		power(api.MaxDigits-1),
		"5"+strings.Repeat("0", api.MaxDigits-1),
		strings.Repeat("12345678", api.MaxDigits/8),
		strings.Repeat("9", api.MaxDigits-1),
	)
}

// tooLongIntegers are right, but have more digits than a limit allows.
func tooLongIntegers() []string {
	return bothSigns(power(api.MaxDigits), strings.Repeat("9", api.MaxDigits+1), strings.Repeat("3", 3*api.MaxDigits))
}

// edgeIntegers are those next to zero, to powers of ten, and to the limits of int.
func edgeIntegers() []string {
	l := []string{"0", "1", "2", "3", "4", "6", "7", "9", "10", "11", "12", "99", "100", "101", "4294967295", "4294967296"}
	l = append(l, "9223372036854775806", "9223372036854775807", "9223372036854775808", "9223372036854775809", "18446744073709551615", "18446744073709551616")
	for _, n := range []int{8, 9, 10, 17, 18, 19, 20, 27, 40} {
		l = append(l, power(n), strings.Repeat("9", n), power(n-1)+"1")
	}
	return bothSigns(l...)
}

// drawn returns an integer of at most most digits.
func drawn(r *rand.Rand, most int) string {
	b := make([]byte, r.Intn(most+1))
	for i := range b {
		b[i] = byte('0' + r.Intn(10))
	}
	s := strings.TrimLeft(string(b), "0")
	switch {
	case s == "":
		return "0"
	case r.Intn(2) == 0:
		return "-" + s
	}
	return s
}

// eachPair calls f with pairs of integers of all kinds.
func eachPair(f func(a, b string)) {
	small := make([]string, 0, 51)
	for n := -25; n <= 25; n++ {
		small = append(small, big.NewInt(int64(n)).String())
	}
	for _, l := range [][]string{small, edgeIntegers(), longIntegers()} {
		for _, a := range l {
			for _, b := range l {
				f(a, b)
			}
		}
	}
	for _, a := range longIntegers() {
		for _, b := range bothSigns("0", "1", "2", "9", power(9), "123456789123456789") {
			f(a, b)
			f(b, a)
		}
	}
	r := rand.New(rand.NewSource(3))
	for range 20000 {
		f(drawn(r, 40), drawn(r, 40))
	}
	for range 300 {
		f(drawn(r, 1000), drawn(r, 1000))
	}
}

// eachTriple calls f with small and drawn integers, of which no product of three is too long.
func eachTriple(f func(a, b, c string)) {
	small := []string{"-3", "-2", "-1", "0", "1", "2", "3"}
	for _, a := range small {
		for _, b := range small {
			for _, c := range small {
				f(a, b, c)
			}
		}
	}
	r := rand.New(rand.NewSource(4))
	for i := range 3000 {
		most := 5 + i%5*250
		f(drawn(r, most), drawn(r, most), drawn(r, most))
	}
}

func number(s string) *big.Int {
	n, ok := new(big.Int).SetString(s, 10)
	if !ok {
		panic(s)
	}
	return n
}

type operation func(a, b string) (string, api.Errno)

func want(t *testing.T, name string, f operation, a, b, result string, err api.Errno) {
	t.Helper()
	if s, e := f(a, b); s != result || e != err {
		t.Errorf("%s(%.80s, %.80s) = %.80s, %d; want %.80s, %d", name, a, b, s, e, result, err)
	}
}

// wantBig compares a result with that of another implementation.
func wantBig(t *testing.T, name string, f operation, a, b string, n *big.Int) {
	t.Helper()
	if s := n.String(); len(strings.TrimPrefix(s, "-")) <= api.MaxDigits {
		want(t, name, f, a, b, s, api.OK)
	} else {
		want(t, name, f, a, b, "", api.ErrSize)
	}
}

func wantQuotient(t *testing.T, a, b, q, r string, err api.Errno) {
	t.Helper()
	if quotient, rest, e := whole.Div(a, b); quotient != q || rest != r || e != err {
		t.Errorf("Div(%.80s, %.80s) = %.80s, %.80s, %d; want %.80s, %.80s, %d", a, b, quotient, rest, e, q, r, err)
	}
}

// wantUnary is want for a function of one argument.
func wantUnary(t *testing.T, name string, f func(s string) (string, api.Errno), s, result string, err api.Errno) {
	t.Helper()
	if u, e := f(s); u != result || e != err {
		t.Errorf("%s(%.80s) = %.80s, %d; want %.80s, %d", name, s, u, e, result, err)
	}
}

func wantInt(t *testing.T, s string, n int, err api.Errno) {
	t.Helper()
	if k, e := whole.Int(s); k != n || e != err {
		t.Errorf("Int(%.80q) = %d, %d; want %d, %d", s, k, e, n, err)
	}
}

// do returns a result that is right.
func do(t *testing.T, f operation, a, b string) string {
	t.Helper()
	s, e := f(a, b)
	if e != api.OK || !whole.Right(s) {
		t.Fatalf("%.80q, %d of %.80s and %.80s", s, e, a, b)
	}
	return s
}

// same reports a law that does not hold.
func same(t *testing.T, law, a, b string) {
	t.Helper()
	if a != b {
		t.Errorf("%s: %.80s and %.80s", law, a, b)
	}
}
