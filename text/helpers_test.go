package text_test

import (
	"math/rand"
	"testing"

	"lorry/api"
	"lorry/text"
)

// eachString calls f with every string of at most most pieces.
func eachString(pieces []string, most int, f func(s string)) {
	var extend func(s string, left int)
	extend = func(s string, left int) {
		f(s)
		for i := 0; left > 0 && i < len(pieces); i++ {
			extend(s+pieces[i], left-1)
		}
	}
	extend("", most)
}

// pieces returns the bytes of a string as strings.
func pieces(s string) []string {
	var l []string
	for i := 0; i < len(s); i++ {
		l = append(l, s[i:i+1])
	}
	return l
}

// randomText returns a drawn string of bytes of all kinds.
func randomText(r *rand.Rand, most int) string {
	b := make([]byte, r.Intn(most+1))
	for i := range b {
		b[i] = byte(r.Intn(256))
	}
	return string(b)
}

func wantNumber(t *testing.T, s string, want int, wantErr api.Errno) {
	t.Helper()
	if n, e := text.Number(s); n != want || e != wantErr {
		t.Errorf("Number(%.40q) = %d, %d; want %d, %d", s, n, e, want, wantErr)
	}
}

func wantUnquoted(t *testing.T, s, want string, wantErr api.Errno) {
	t.Helper()
	if u, e := text.Unquote(s); u != want || e != wantErr {
		t.Errorf("Unquote(%.40q) = %.40q, %d; want %.40q, %d", s, u, e, want, wantErr)
	}
}

func wantWords(t *testing.T, s string, want []string) {
	t.Helper()
	l, e := text.Words(s)
	if e != api.OK || !sameList(l, want) {
		t.Errorf("Words(%.40q) = %.200q, %d; want %.200q", s, l, e, want)
	}
}

func wantNoWords(t *testing.T, s string) {
	t.Helper()
	if l, e := text.Words(s); len(l) != 0 || e != api.ErrForm {
		t.Errorf("Words(%.40q) = %.200q, %d; want ErrForm", s, l, e)
	}
}

func sameList(a, b []string) bool {
	if len(a) != len(b) {
		return false
	}
	for i := range a {
		if a[i] != b[i] {
			return false
		}
	}
	return true
}
