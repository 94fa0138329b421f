package text_test

import (
	"fmt"
	"math/rand"
	"strings"
	"testing"

	"lorry/api"
	"lorry/text"
)

// formOf returns the form of a byte, as the chapter describes it.
func formOf(c byte) string {
	switch {
	case c == '"':
		return "\\\""
	case c == '\\':
		return "\\\\"
	case c == 10:
		return "\\n"
	case c < 32 || c > 126:
		return fmt.Sprintf("\\x%02x", c)
	}
	return string([]byte{c})
}

func allBytes() string {
	b := make([]byte, 256)
	for i := range b {
		b[i] = byte(i)
	}
	return string(b)
}

// checkQuote checks the form of a Quote, its bytes, and that Unquote inverts it.
func checkQuote(t *testing.T, s string) {
	t.Helper()
	var want strings.Builder
	for i := 0; i < len(s); i++ {
		want.WriteString(formOf(s[i]))
	}
	q := text.Quote(s)
	if q != "\""+want.String()+"\"" {
		t.Errorf("Quote(%q) is %s", s, q)
	}
	for i := 0; i < len(q); i++ {
		if q[i] < 32 || q[i] > 126 {
			t.Errorf("Quote(%q) contains the byte %d", s, q[i])
		}
	}
	wantUnquoted(t, q, s, api.OK)
}

// P1.1, P1.2: every byte from 0 to 255.
func TestQuoteOfEveryByte(t *testing.T) {
	checkQuote(t, "")
	checkQuote(t, allBytes())
	for i := range 256 {
		checkQuote(t, string([]byte{byte(i)}))
		for j := range 256 {
			checkQuote(t, string([]byte{byte(i), byte(j)}))
		}
	}
}

func TestQuoteHasItsExamples(t *testing.T) {
	for s, want := range map[string]string{
		"a\"\n":        "\"a\\\"\\n\"",
		"":             "\"\"",
		"a\x00b":       "\"a\\x00b\"",
		"b\\":          "\"b\\\\\"",
		"\t\r\x7f":     "\"\\x09\\x0d\\x7f\"",
		"é":            "\"\\xc3\\xa9\"",
		"\x1f ~\x80":   "\"\\x1f ~\\x80\"",
		"\\n\\x00":     "\"\\\\n\\\\x00\"",
		"hub_2, ok!":   "\"hub_2, ok!\"",
		"\xab\xcd\xef": "\"\\xab\\xcd\\xef\"",
	} {
		if q := text.Quote(s); q != want {
			t.Errorf("Quote(%q) is %s", s, q)
		}
		wantUnquoted(t, want, s, api.OK)
	}
	if n := len(text.Quote("a\"\n")); n != 7 {
		t.Errorf("the Quote of the chapter's example has %d bytes", n)
	}
}

func TestUnquoteInvertsQuote(t *testing.T) {
	r := rand.New(rand.NewSource(2))
	for range 2000 {
		checkQuote(t, randomText(r, 40))
	}
	checkQuote(t, strings.Repeat(allBytes(), 1<<10))
	checkQuote(t, strings.Repeat("\\", 1<<18))
}

// wantOneOf checks that s is unquoted if it is one of the quotes, and refused otherwise.
func wantOneOf(t *testing.T, quotes map[string]string, s string) {
	t.Helper()
	want, isQuote := quotes[s]
	if isQuote {
		wantUnquoted(t, s, want, api.OK)
	} else {
		wantUnquoted(t, s, "", api.ErrForm)
	}
}

// Every short string over these bytes is either one of the Quotes that can be written with them, or refused.
func TestUnquoteAcceptsOnlyQuotes(t *testing.T) {
	quotes := map[string]string{}
	eachString(pieces("nx0aF \"\\\n\x00\xa0\xaa"), 4, func(s string) {
		quotes[text.Quote(s)] = s
	})
	eachString(pieces("\"\\nx0aF \n\xa0"), 6, func(s string) {
		wantOneOf(t, quotes, s)
	})
}

func TestUnquoteOfEveryFormOfTwoDigits(t *testing.T) {
	quotes := map[string]string{}
	for i := range 256 {
		s := string([]byte{byte(i)})
		quotes[text.Quote(s)] = s
	}
	for i := range 256 {
		for j := range 256 {
			s := "\"\\x" + string([]byte{byte(i), byte(j)}) + "\""
			wantOneOf(t, quotes, s)
		}
	}
}

func TestUnquoteOfEveryByteAndEscape(t *testing.T) {
	for i := range 256 {
		c := string([]byte{byte(i)})
		if formOf(byte(i)) == c {
			wantUnquoted(t, "\"a"+c+"b\"", "a"+c+"b", api.OK)
		} else {
			wantUnquoted(t, "\"a"+c+"b\"", "", api.ErrForm)
		}
		escaped := "\"\\" + c + "\""
		switch c {
		case "n":
			wantUnquoted(t, escaped, "\n", api.OK)
		case "\"", "\\":
			wantUnquoted(t, escaped, c, api.OK)
		default:
			wantUnquoted(t, escaped, "", api.ErrForm)
		}
	}
}

func TestUnquoteRefusesOtherTexts(t *testing.T) {
	for _, s := range []string{
		"", "a", "\"", "\"a", "a\"", "\"\\\"", "\"\\", "\\\"", "'a'", "`a`", "\"\"\"", "\"\" ", " \"\"", "\"a\"b", "\"a\"\"b\"",
		"\"\n\"", "\"\t\"", "\"é\"", "\"\x7f\"", "\"\\t\"", "\"\\r\"", "\"\\0\"", "\"\\u0041\"", "\"\\N\"", "\"\\'\"", "\"\\ \"",
		"\"\\x41\"", "\"\\x20\"", "\"\\x7e\"", "\"\\x22\"", "\"\\x5c\"", "\"\\x0a\"", "\"\\x0A\"", "\"\\xFF\"", "\"\\xfF\"", "\"\\Xff\"",
		"\"\\x\"", "\"\\x0\"", "\"\\x0", "\"\\x00", "\"\\x", "\"\\xg0\"", "\"\\x0g\"", "\"\\x 0\"", "\"\\x-1\"",
		"\"ok\\x41ok\"", "\"" + strings.Repeat("a", 1<<20), "\"" + strings.Repeat("\\", 1<<20+1) + "\"",
	} {
		wantUnquoted(t, s, "", api.ErrForm)
	}
}

func TestUnquoteOfDrawnTexts(t *testing.T) {
	r := rand.New(rand.NewSource(3))
	for range 20000 {
		s := randomText(r, 12)
		if r.Intn(2) == 0 {
			s = "\"" + s + "\""
		}
		u, e := text.Unquote(s)
		if e == api.OK && text.Quote(u) != s || e != api.OK && (e != api.ErrForm || u != "") {
			t.Errorf("Unquote(%q) = %q, %d", s, u, e)
		}
	}
}
