// Package text is layer 1: names, numbers and quoted text. See shared/doc/01-text.md.
package text

import (
	"strconv"
	"strings"

	"lorry/api"
)

const hexDigits = "0123456789abcdef"

// Name reports whether a text is a name: 1 to MaxName letters, digits and underscores, not beginning with a digit.
func Name(s string) bool {
	if s == "" || len(s) > api.MaxName || isDigit(s[0]) {
		return false
	}
	for i := 0; i < len(s); i++ {
		if !isLetter(s[i]) && !isDigit(s[i]) && s[i] != '_' {
			return false
		}
	}
	return true
}

// Decimal writes a number in its decimal form.
func Decimal(n int) string {
	return strconv.Itoa(n)
}

// Number reads the decimal form of a number.
func Number(s string) (int, api.Errno) {
	if !isDecimal(s) {
		return 0, api.ErrForm
	}
	n, err := strconv.ParseInt(s, 10, 64)
	if err != nil {
		return 0, api.ErrSize
	}
	return int(n), api.OK
}

// isDecimal reports whether a text is the decimal form of an integer of any size.
func isDecimal(s string) bool {
	if s == "0" {
		return true
	}
	digits := strings.TrimPrefix(s, "-")
	if digits == "" || digits[0] == '0' {
		return false
	}
	for i := 0; i < len(digits); i++ {
		if !isDigit(digits[i]) {
			return false
		}
	}
	return true
}

// Quote writes any text in quotation marks.
func Quote(s string) string {
	var b strings.Builder
	b.WriteByte('"')
	for i := 0; i < len(s); i++ {
		writeForm(&b, s[i])
	}
	b.WriteByte('"')
	return b.String()
}

// writeForm writes the form that a byte has in a quoted string.
func writeForm(b *strings.Builder, c byte) {
	switch {
	case c == '"' || c == '\\':
		b.WriteByte('\\')
		b.WriteByte(c)
	case c == '\n':
		b.WriteString(`\n`)
	case isPrintable(c):
		b.WriteByte(c)
	default:
		b.WriteString(`\x`)
		b.WriteByte(hexDigits[c>>4])
		b.WriteByte(hexDigits[c&15])
	}
}

// Unquote reads a text in quotation marks.
func Unquote(s string) (string, api.Errno) {
	if s == "" || quotedLength(s) != len(s) {
		return "", api.ErrForm
	}
	var b strings.Builder
	for inner := s[1 : len(s)-1]; inner != ""; {
		c, n := readForm(inner)
		b.WriteByte(c)
		inner = inner[n:]
	}
	return b.String(), api.OK
}

// quotedLength returns the length of the quoted string with which s begins, or 0 if it begins with none.
func quotedLength(s string) int {
	if s == "" || s[0] != '"' {
		return 0
	}
	for i := 1; i < len(s); {
		if s[i] == '"' {
			return i + 1
		}
		_, n := readForm(s[i:])
		if n == 0 {
			return 0
		}
		i += n
	}
	return 0
}

// readForm returns the byte with whose form s begins, and the length of this form, or 0 if it begins with none.
func readForm(s string) (byte, int) {
	switch {
	case s == "" || s[0] == '"' || !isPrintable(s[0]):
		return 0, 0
	case s[0] == '\\':
		return readEscape(s)
	}
	return s[0], 1
}

// readEscape is readForm for a text that begins with a backslash.
func readEscape(s string) (byte, int) {
	if len(s) < 2 {
		return 0, 0
	}
	switch s[1] {
	case '"', '\\':
		return s[1], 2
	case 'n':
		return '\n', 2
	case 'x':
		return readHex(s)
	}
	return 0, 0
}

// readHex is readForm for a text that begins with a backslash and an x.
func readHex(s string) (byte, int) {
	if len(s) < 4 {
		return 0, 0
	}
	high := strings.IndexByte(hexDigits, s[2])
	low := strings.IndexByte(hexDigits, s[3])
	if high < 0 || low < 0 {
		return 0, 0
	}
	c := byte(high<<4 | low)
	// These bytes have shorter forms, and every byte has only one form.
	if c == '\n' || isPrintable(c) {
		return 0, 0
	}
	return c, 4
}

// Words splits a line into its words and quoted texts.
func Words(s string) ([]string, api.Errno) {
	if s == "" {
		return nil, api.OK
	}
	var parts []string
	for {
		n := partLength(s)
		if n == 0 {
			return nil, api.ErrForm
		}
		parts = append(parts, s[:n])
		if n == len(s) {
			return parts, api.OK
		}
		if s[n] != ' ' {
			return nil, api.ErrForm
		}
		s = s[n+1:]
	}
}

// partLength returns the length of the part with which s begins, or 0 if it begins with none.
func partLength(s string) int {
	if n := quotedLength(s); n > 0 {
		return n
	}
	n := 0
	for n < len(s) && isWordByte(s[n]) {
		n++
	}
	return n
}

// Join joins texts with single spaces.
func Join(l []string) string {
	return strings.Join(l, " ")
}

func isDigit(c byte) bool {
	return '0' <= c && c <= '9'
}

func isLetter(c byte) bool {
	return 'a' <= c && c <= 'z' || 'A' <= c && c <= 'Z'
}

func isPrintable(c byte) bool {
	return ' ' <= c && c <= '~'
}

func isWordByte(c byte) bool {
	return isPrintable(c) && c != ' ' && c != '"'
}
