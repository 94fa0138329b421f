package nat_test

import (
	"math/big"
	"math/rand"
	"strings"
	"testing"

	"lorry/api"
	"lorry/nat"
)

// wrongTexts are not right, for various reasons.
func wrongTexts() []string {
	return []string{
		"", "00", "01", "-1", "-0", "+1", "1a", "a1", " 1", "1 ", "1 2", "1.0", "1/2", "1_000", "0x1", "1e3", "١", "1\n", "1\x00", "\xff",
		"0" + strings.Repeat("1", 9), strings.Repeat("0", api.MaxDigits+1), strings.Repeat("9", api.MaxDigits+1) + "x",
	}
}

// longNumbers have as many digits as a limit allows, or nearly as many.
func longNumbers() []string {
	return []string{
		strings.Repeat("9", api.MaxDigits),
		power(api.MaxDigits - 1),
		strings.Repeat("12345678", api.MaxDigits/8),
		strings.Repeat("9", api.MaxDigits-1),
		power(api.MaxDigits-2) + "0",
		strings.Repeat("7", api.MaxDigits-8),
	}
}

// tooLongNumbers are right, but have more digits than a limit allows.
func tooLongNumbers() []string {
	return []string{power(api.MaxDigits), strings.Repeat("9", api.MaxDigits+1), strings.Repeat("3", 3*api.MaxDigits)}
}

// edgeNumbers are numbers at the borders of words and of groups of digits.
func edgeNumbers() []string {
	l := []string{"0", "1", "2", "3", "7", "9", "10", "11", "12", "99", "100", "101", "407", "1024", "65536", "4294967295", "4294967296", "18446744073709551615", "18446744073709551616"}
	for _, n := range []int{3, 8, 9, 10, 17, 18, 19, 26, 27, 28, 36, 37, 45} {
		l = append(l, power(n), strings.Repeat("9", n), power(n-1)+"1", "5"+strings.Repeat("0", n-1), strings.Repeat("1", n))
	}
	return l
}

// power returns the power of ten with n zeros.
func power(n int) string {
	return "1" + strings.Repeat("0", n)
}

// drawn returns a number of at most most digits, whose digits often repeat.
func drawn(r *rand.Rand, most int) string {
	n := r.Intn(most + 1)
	var b strings.Builder
	for b.Len() < n {
		digit := byte('0' + r.Intn(10))
		count := 1
		if r.Intn(2) == 0 {
			digit, count = "0099951"[r.Intn(7)], 1+r.Intn(n)
		}
		b.WriteString(strings.Repeat(string(digit), count))
	}
	s := strings.TrimLeft(b.String()[:n], "0")
	if s == "" {
		return "0"
	}
	return s
}

// eachPair calls f with pairs of numbers of all kinds.
func eachPair(f func(a, b string)) {
	edges := edgeNumbers()
	for _, a := range edges {
		for _, b := range edges {
			f(a, b)
		}
	}
	r := rand.New(rand.NewSource(2))
	for range 20000 {
		f(drawn(r, 60), drawn(r, 60))
	}
	for range 300 {
		f(drawn(r, 1000), drawn(r, 1000))
	}
	long := longNumbers()
	for _, a := range long {
		for _, b := range long {
			f(a, b)
		}
		for _, b := range []string{"0", "1", "2", "9", power(9), "123456789123456789"} {
			f(a, b)
			f(b, a)
		}
	}
}

func number(s string) *big.Int {
	n, ok := new(big.Int).SetString(s, 10)
	if !ok {
		panic(s)
	}
	return n
}

type operation func(a, b string) (string, api.Errno)

func want(t *testing.T, name string, f operation, a, b, result string, err api.Errno) {
	t.Helper()
	if s, e := f(a, b); s != result || e != err {
		t.Errorf("%s(%.80s, %.80s) = %.80s, %d; want %.80s, %d", name, a, b, s, e, result, err)
	}
}

// wantBig compares a result with that of another implementation.
func wantBig(t *testing.T, name string, f operation, a, b string, n *big.Int) {
	t.Helper()
	if s := n.String(); len(s) <= api.MaxDigits {
		want(t, name, f, a, b, s, api.OK)
	} else {
		want(t, name, f, a, b, "", api.ErrSize)
	}
}

// quotient and remainder are parts of Div.
func quotient(a, b string) (string, api.Errno) {
	q, _, e := nat.Div(a, b)
	return q, e
}

func remainder(a, b string) (string, api.Errno) {
	_, r, e := nat.Div(a, b)
	return r, e
}
