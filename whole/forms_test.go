package whole_test

import (
	"math"
	"math/rand"
	"strconv"
	"strings"
	"testing"

	"lorry/api"
	"lorry/whole"
)

// P3.1
func TestRightAcceptsIntegers(t *testing.T) {
	long := strings.Repeat("1234567890", 100000)
	rights := append(append(edgeIntegers(), longIntegers()...), tooLongIntegers()...)
	for _, s := range append(rights, "0", "-1", "120", "-907", long, "-"+long) {
		if !whole.Right(s) {
			t.Errorf("Right(%.40q) is false", s)
		}
	}
}

func TestRightRefusesOtherTexts(t *testing.T) {
	for _, s := range append(wrongTexts(), "-"+strings.Repeat("1", 1<<20)+"-") {
		if whole.Right(s) {
			t.Errorf("Right(%.40q) is true", s)
		}
	}
}

// A text of few bytes is right if it is what is written for the int that is read from it.
func TestRightAcceptsOnlyWhatIsWritten(t *testing.T) {
	check := func(s string) {
		n, err := strconv.Atoi(s)
		if want := err == nil && strconv.Itoa(n) == s; whole.Right(s) != want {
			t.Errorf("Right(%q) is not %v", s, want)
		}
	}
	for i := range 256 {
		c := string([]byte{byte(i)})
		for _, s := range []string{c, "-" + c, c + "-", c + "1", "1" + c, "1" + c + "0", "-" + c + "1", "-1" + c, "0" + c, "-0" + c, c + "-1"} {
			check(s)
		}
	}
	bytes := "-+0129 .a"
	for i := range len(bytes) * len(bytes) * len(bytes) * len(bytes) {
		s := ""
		for k := i; k > 0; k /= len(bytes) {
			s += bytes[k%len(bytes) : k%len(bytes)+1]
		}
		check(s)
	}
}

// ints are those next to zero, to the limits, and to powers of two and ten.
func ints() []int {
	l := []int{-12, 12, math.MaxInt, math.MaxInt - 1, math.MinInt, math.MinInt + 1}
	for n := -1100; n <= 1100; n++ {
		l = append(l, n)
	}
	for _, base := range []int{2, 10} {
		for n := base; n > 0 && n <= math.MaxInt/base; n *= base {
			l = append(l, n-1, n, n+1, -n-1, -n, -n+1)
		}
	}
	r := rand.New(rand.NewSource(5))
	for range 1000 {
		l = append(l, int(r.Uint64()))
	}
	return l
}

// P3.1 and P3.7: Int inverts Of.
func TestOfWritesWhatIntReads(t *testing.T) {
	for _, n := range ints() {
		s := whole.Of(n)
		if want := strconv.Itoa(n); s != want || !whole.Right(s) {
			t.Errorf("Of(%d) = %q", n, s)
		}
		wantInt(t, s, n, api.OK)
	}
	for s, n := range map[string]int{"0": 0, "-12": -12, "9223372036854775807": math.MaxInt, "-9223372036854775808": math.MinInt} {
		if whole.Of(n) != s {
			t.Errorf("Of(%d) = %q", n, whole.Of(n))
		}
	}
}

// P3.1
func TestIntRefusesWhatIsNoInt(t *testing.T) {
	for _, s := range []string{"9223372036854775808", "-9223372036854775809", "9223372036854775809", "10000000000000000000", "-10000000000000000000", "18446744073709551615", "18446744073709551616", "-18446744073709551617", power(30)} {
		wantInt(t, s, 0, api.ErrSize)
	}
	for _, s := range append(longIntegers(), tooLongIntegers()...) {
		wantInt(t, s, 0, api.ErrSize)
	}
	for _, s := range wrongTexts() {
		wantInt(t, s, 0, api.ErrForm)
	}
}

// P3.1
func TestSignIsThatOfTheInteger(t *testing.T) {
	for _, s := range append(append(edgeIntegers(), longIntegers()...), tooLongIntegers()...) {
		if got, want := whole.Sign(s), number(s).Sign(); got != want {
			t.Errorf("Sign(%.40s) = %d; want %d", s, got, want)
		}
	}
	for s, want := range map[string]int{"-3": -1, "0": 0, "7": 1, "-" + power(9000): -1, power(9000): 1} {
		if got := whole.Sign(s); got != want {
			t.Errorf("Sign(%.40s) = %d; want %d", s, got, want)
		}
	}
	for _, s := range wrongTexts() {
		if whole.Sign(s) != 0 {
			t.Errorf("Sign(%.40q) is not 0", s)
		}
	}
}

// P3.1
func TestCompareHasItsExamples(t *testing.T) {
	long := power(9000)
	for _, c := range []struct {
		a, b string
		want int
	}{
		{"9", "10", -1}, {"-9", "-10", 1}, {"-10", "9", -1}, {"-9", "10", -1}, {"-5", "5", -1}, {"0", "0", 0}, {"-7", "-7", 0}, {"-1", "0", -1}, {"0", "1", -1}, {"123", "132", -1}, {"-123", "-132", 1},
		{"-" + long, "1", -1}, {"-" + long, "-1", -1}, {"-" + long, "-" + long, 0}, {"-" + long, long, -1}, {long, "9" + long[2:], 1},
		{long + "1", long + "2", -1}, {"-" + long + "1", "-" + long + "2", 1},
	} {
		if got := whole.Compare(c.a, c.b); got != c.want {
			t.Errorf("Compare(%.40s, %.40s) = %d; want %d", c.a, c.b, got, c.want)
		}
		if got := whole.Compare(c.b, c.a); got != -c.want {
			t.Errorf("Compare(%.40s, %.40s) = %d; want %d", c.b, c.a, got, -c.want)
		}
	}
}

// P3.1
func TestCompareIsZeroForWrongTexts(t *testing.T) {
	for _, s := range wrongTexts() {
		for _, other := range append(append(wrongTexts(), tooLongIntegers()...), "0", "5", "-5", power(20)) {
			if whole.Compare(s, other) != 0 || whole.Compare(other, s) != 0 {
				t.Errorf("Compare of %.40q and %.40q is not 0", s, other)
			}
		}
	}
}

// P3.7
func TestCompareIsTheOrderOfIntegers(t *testing.T) {
	check := func(a, b string) {
		if got, want := whole.Compare(a, b), number(a).Cmp(number(b)); got != want {
			t.Fatalf("Compare(%.80s, %.80s) = %d; want %d", a, b, got, want)
		}
	}
	eachPair(check)
	for _, a := range tooLongIntegers() {
		for _, b := range append(append(tooLongIntegers(), longIntegers()...), "0", "1", "-1") {
			check(a, b)
			check(b, a)
		}
	}
}

// P3.7
func TestCompareIsTotal(t *testing.T) {
	eachTriple(func(a, b, c string) {
		if whole.Compare(a, b) != -whole.Compare(b, a) || (whole.Compare(a, b) == 0) != (a == b) {
			t.Errorf("Compare of %.80s and %.80s", a, b)
		}
		if whole.Compare(a, b) <= 0 && whole.Compare(b, c) <= 0 && whole.Compare(a, c) > 0 {
			t.Errorf("Compare is not transitive: %.80s, %.80s, %.80s", a, b, c)
		}
	})
}

// P3.7
func TestCompareIsTheSignOfTheDifference(t *testing.T) {
	eachPair(func(a, b string) {
		if d, e := whole.Sub(a, b); e == api.OK && whole.Compare(a, b) != whole.Sign(d) {
			t.Fatalf("Compare(%.80s, %.80s) = %d, but the difference is %.80s", a, b, whole.Compare(a, b), d)
		}
	})
}
