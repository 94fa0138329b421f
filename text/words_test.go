package text_test

import (
	"math/rand"
	"strings"
	"testing"

	"lorry/api"
	"lorry/text"
)

// P1.2: lines.
func TestWordsHasItsExamples(t *testing.T) {
	wantWords(t, "order \"a b\" 5", []string{"order", "\"a b\"", "5"})
	wantWords(t, "a \"b\\\\\" c", []string{"a", text.Quote("b\\"), "c"})
	wantWords(t, "", nil)
	wantWords(t, "\"\"", []string{"\"\""})
	wantWords(t, "\"\" \"\" x", []string{"\"\"", "\"\"", "x"})
	wantWords(t, "\" \" \"  \"", []string{"\" \"", "\"  \""})
	wantWords(t, "\"a \\\" b\" c", []string{"\"a \\\" b\"", "c"})
	wantWords(t, "\\ \\\\ \\n ! ~ it's", []string{"\\", "\\\\", "\\n", "!", "~", "it's"})
}

func TestWordsRefusesOtherLines(t *testing.T) {
	for _, s := range []string{
		" ", "  ", "a  b", " a", "a ", "a b ", "\"a\" ", " \"a\"", "\"a\"  \"b\"", "a\"b\"", "\"a\"b", "\"a\"\"b\"", "a\"", "\"", "\"a", "a \"b",
		"\"a b", "\"\\\"", "\"\\x41\"", "a \"\\x0a\" b", "\"\t\"", "a\tb", "a\nb", "a\n", "\n", "\r", "a\x00", "\x7f", "é", "a \xff", "a b\x80",
		strings.Repeat(" ", 1<<16), strings.Repeat("a ", 1<<16), strings.Repeat("\"a\" ", 1<<16),
	} {
		wantNoWords(t, s)
	}
}

func TestWordsOfEveryByte(t *testing.T) {
	for i := range 256 {
		c := string([]byte{byte(i)})
		switch {
		case i == ' ':
			wantNoWords(t, c)
			wantWords(t, "a"+c+"b", []string{"a", "b"})
		case i < 33 || i > 126 || i == '"':
			wantNoWords(t, c)
			wantNoWords(t, "a"+c+"b")
		default:
			wantWords(t, c, []string{c})
			wantWords(t, "a"+c+"b", []string{"a" + c + "b"})
		}
		wantWords(t, "a "+text.Quote(c)+" b", []string{"a", text.Quote(c), "b"})
	}
	wantWords(t, text.Quote(allBytes()), []string{text.Quote(allBytes())})
}

func TestJoin(t *testing.T) {
	for _, c := range []struct {
		parts []string
		want  string
	}{
		{nil, ""},
		{[]string{}, ""},
		{[]string{""}, ""},
		{[]string{"a"}, "a"},
		{[]string{"a", "b", "c"}, "a b c"},
		{[]string{"a", "", "b"}, "a  b"},
		{[]string{" ", "\"x y\"", "é"}, "  \"x y\" é"},
	} {
		before := append([]string(nil), c.parts...)
		if s := text.Join(c.parts); s != c.want {
			t.Errorf("Join(%q) = %q", c.parts, s)
		}
		if !sameList(before, c.parts) {
			t.Errorf("Join changed %q to %q", before, c.parts)
		}
	}
}

// shortLines returns all lines of at most most bytes whose parts are of the given ones.
func shortLines(parts []string, most int) map[string][]string {
	lines := map[string][]string{"": nil}
	var extend func(line string, list []string)
	extend = func(line string, list []string) {
		lines[line] = list
		for _, p := range parts {
			if len(line)+1+len(p) <= most {
				extend(line+" "+p, append(list[:len(list):len(list)], p))
			}
		}
	}
	for _, p := range parts {
		if len(p) <= most {
			extend(p, []string{p})
		}
	}
	return lines
}

// Every short string over these bytes is either one of the lines that can be written with them, or refused.
func TestWordsAcceptsOnlyLines(t *testing.T) {
	const most = 7
	var parts []string
	eachString(pieces("an\\"), most, func(s string) {
		if s != "" {
			parts = append(parts, s)
		}
	})
	eachString(pieces("an \"\\\n"), most-2, func(s string) {
		parts = append(parts, text.Quote(s))
	})
	lines := shortLines(parts, most)
	eachString(pieces("an\\\" \n"), most, func(s string) {
		want, isLine := lines[s]
		if !isLine {
			wantNoWords(t, s)
			return
		}
		wantWords(t, s, want)
		if text.Join(want) != s {
			t.Errorf("Join(%q) is not %q", want, s)
		}
	})
}

// randomPart returns a drawn word or quoted string.
func randomPart(r *rand.Rand) string {
	if r.Intn(2) == 0 {
		return text.Quote(randomText(r, 8))
	}
	word := make([]byte, 1+r.Intn(8))
	for i := range word {
		word[i] = '!' + byte(r.Intn('~'-'!'+1))
		if word[i] == '"' {
			word[i] = '#'
		}
	}
	return string(word)
}

func TestWordsInvertsJoin(t *testing.T) {
	r := rand.New(rand.NewSource(4))
	for range 5000 {
		parts := make([]string, r.Intn(8))
		for i := range parts {
			parts[i] = randomPart(r)
		}
		wantWords(t, text.Join(parts), parts)
	}
}

func TestJoinInvertsWords(t *testing.T) {
	r := rand.New(rand.NewSource(5))
	for range 20000 {
		s := randomText(r, 6)
		l, e := text.Words(s)
		if e == api.OK && text.Join(l) != s || e != api.OK && (e != api.ErrForm || len(l) != 0) {
			t.Errorf("Words(%q) = %q, %d", s, l, e)
		}
	}
}

// Bound: a long line is read in a time that is proportional to its length.
func TestLongLines(t *testing.T) {
	for _, part := range []string{"a", strings.Repeat("w", 1<<12), text.Quote(allBytes()), "\"\""} {
		var parts []string
		for size := 0; size < 1<<22; size += len(part) + 1 {
			parts = append(parts, part)
		}
		wantWords(t, text.Join(parts), parts)
	}
	long := text.Quote(strings.Repeat(allBytes(), 1<<12))
	wantWords(t, long, []string{long})
}

// R6: equal calls have equal results.
func TestWordsAgain(t *testing.T) {
	first, _ := text.Words("a \"b c\" d")
	first[0] = "changed"
	wantWords(t, "a \"b c\" d", []string{"a", "\"b c\"", "d"})
}
