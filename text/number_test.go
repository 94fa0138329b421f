package text_test

import (
	"math"
	"math/rand"
	"strings"
	"testing"

	"lorry/api"
	"lorry/text"
)

// P1.1: names.
func TestNameHasItsExamples(t *testing.T) {
	for _, s := range []string{"hub_2", "_", "a", "Z", "__", "_1", "a0", strings.Repeat("x", 16), "abcdefghijklmnop", "QRSTUVWXYZ_56789"} {
		if !text.Name(s) {
			t.Errorf("Name(%q) is false", s)
		}
	}
	for _, s := range []string{"2nd", "", "a b", " a", "a ", "a-b", "a.b", "\"a\"", "é", "aé", "Ⅷ", "a\n", "a\x00", strings.Repeat("x", 17), strings.Repeat("_", 1<<20)} {
		if text.Name(s) {
			t.Errorf("Name(%.40q) is true", s)
		}
	}
}

func TestNameAcceptsOnlyItsCharacters(t *testing.T) {
	const first = "_abcdefghijklmnopqrstuvwxyzABCDEFGHIJKLMNOPQRSTUVWXYZ"
	const later = first + "0123456789"
	for i := range 256 {
		c := string([]byte{byte(i)})
		if got, want := text.Name(c), strings.Contains(first, c); got != want {
			t.Errorf("Name(%q) = %v", c, got)
		}
		if got, want := text.Name("a"+c), strings.Contains(later, c); got != want {
			t.Errorf("Name(%q) = %v", "a"+c, got)
		}
		if got, want := text.Name("abcdefghijklmno"+c), strings.Contains(later, c); got != want {
			t.Errorf("Name(%q) = %v", "abcdefghijklmno"+c, got)
		}
	}
}

// P1.1: numbers.
func TestDecimalHasItsExamples(t *testing.T) {
	for n, want := range map[int]string{
		-120:          "-120",
		0:             "0",
		7:             "7",
		-1:            "-1",
		1000:          "1000",
		math.MaxInt64: "9223372036854775807",
		math.MinInt64: "-9223372036854775808",
	} {
		if s := text.Decimal(n); s != want {
			t.Errorf("Decimal(%d) = %q", n, s)
		}
		wantNumber(t, want, n, api.OK)
	}
}

func TestNumberInvertsDecimal(t *testing.T) {
	check := func(n int) { wantNumber(t, text.Decimal(n), n, api.OK) }
	for n := -20000; n <= 20000; n++ {
		check(n)
	}
	for i := range 64 {
		for d := -2; d <= 2; d++ {
			check(1<<i + d)
			check(-1<<i + d)
		}
	}
	r := rand.New(rand.NewSource(1))
	for range 20000 {
		check(int(r.Uint64()) >> r.Intn(64))
	}
}

func TestDecimalInvertsNumber(t *testing.T) {
	decimals := map[string]int{}
	for n := -9999; n <= 99999; n++ {
		decimals[text.Decimal(n)] = n
	}
	eachString(pieces("0129-+ x"), 5, func(s string) {
		want, isDecimal := decimals[s]
		if isDecimal {
			wantNumber(t, s, want, api.OK)
		} else {
			wantNumber(t, s, 0, api.ErrForm)
		}
	})
}

func TestNumberRefusesOtherForms(t *testing.T) {
	for _, s := range []string{
		"", "-", "--", "-0", "+1", "+0", "007", "00", "-01", "--1", "1-", " 1", "1 ", "- 1", "1\n", "1\x00",
		"1_000", "0x10", "1e3", "1.0", "½", "٣", "ten", "\"1\"", "/", ":", "1/", "1:", "\xff",
		"09223372036854775808", "-09223372036854775809", "+9223372036854775808",
		"9223372036854775808x", "x9223372036854775808", "9223372036854775808 ", "99999999999999999999999-",
		strings.Repeat("0", 100000), "-" + strings.Repeat("0", 100000), strings.Repeat("9", 100000) + "a",
	} {
		wantNumber(t, s, 0, api.ErrForm)
	}
}

func TestNumberRefusesEveryOtherByte(t *testing.T) {
	for i := range 256 {
		c := string([]byte{byte(i)})
		if '0' <= i && i <= '9' {
			wantNumber(t, "1"+c, 10+i-'0', api.OK)
			wantNumber(t, c, i-'0', api.OK)
		} else {
			wantNumber(t, "1"+c, 0, api.ErrForm)
			wantNumber(t, c, 0, api.ErrForm)
		}
	}
}

func TestNumberRefusesOtherSizes(t *testing.T) {
	for _, s := range []string{
		"9223372036854775808", "-9223372036854775809", "9223372036854775810", "-9223372036854775810",
		"18446744073709551615", "18446744073709551616", "18446744073709551617", "-18446744073709551616",
		"10000000000000000000", "-10000000000000000000", "340282366920938463463374607431768211456",
		strings.Repeat("9", 100000), "-1" + strings.Repeat("0", 100000),
	} {
		wantNumber(t, s, 0, api.ErrSize)
	}
}
