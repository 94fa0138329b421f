package spec_test

import (
	"math/rand"
	"strings"
	"testing"

	"lorry/api"
	"lorry/spec"
)

// shortText is a text with all kinds of lines, and with all kinds of parts.
const shortText = "place A\nplace b\narc 0 1 2 3 0:4,9:12 .\ntype v 1 0 1 5,6 0 2 0 90 80 1 0 1 2\norder o 1,0 . 1:2:3:4 0 -1 2 -1 0 on\norder p 0,1 0:1:2:3 . 0 7 1 0 -1 off\napart 1 0\nbefore 0 1\nend\n"

// wantModelAndText compares Parse with its model; what is accepted is printed as it was.
func wantModelAndText(t *testing.T, s string) {
	t.Helper()
	wantModel(t, s)
	if x, _, err := spec.Parse(s); err == api.OK {
		wantPrinted(t, x, s)
	}
}

// P14.2, P14.4: each byte is changed to each other one, or one is put before it.
func TestParseWithAnotherByte(t *testing.T) {
	wantModelAndText(t, shortText)
	for i := range len(shortText) + 1 {
		for b := range 256 {
			c := string([]byte{byte(b)})
			wantModelAndText(t, shortText[:i]+c+shortText[i:])
			if i < len(shortText) {
				wantModelAndText(t, shortText[:i]+c+shortText[i+1:])
			}
		}
	}
}

// P14.2, P14.4: texts without some of their bytes, and their beginnings and ends.
func TestParseWithoutBytes(t *testing.T) {
	for _, s := range []string{shortText, townText} {
		for i := range len(s) {
			wantNoForm(t, s[:i], 1+strings.Count(s[:i], "\n"))
			wantModelAndText(t, s[i:])
			for count := 1; count < 6 && i+count <= len(s); count++ {
				wantModelAndText(t, s[:i]+s[i+count:])
				wantModelAndText(t, s[:i]+s[i:i+count]+s[i:])
			}
		}
	}
}

// P14.2, P14.4: neighbours are exchanged.
func TestParseWithExchangedBytes(t *testing.T) {
	for i := range len(townText) - 1 {
		b := []byte(townText)
		b[i], b[i+1] = b[i+1], b[i]
		wantModelAndText(t, string(b))
	}
}

// alphabet has the bytes of texts, and some others.
const alphabet = "0123456789-+,:. \n\"\\\t\r\x00aeonfplcdr_Z~\x7f\x80\xff"

// drawnChange returns a text in which one byte, which is drawn, is changed, added or left out.
func drawnChange(r *rand.Rand, s string) string {
	i := r.Intn(len(s))
	c := string(alphabet[r.Intn(len(alphabet))])
	switch r.Intn(3) {
	case 0:
		return s[:i] + c + s[i+1:]
	case 1:
		return s[:i] + c + s[i:]
	}
	return s[:i] + s[i+1:]
}

// P14.2, P14.4: the texts of drawn instances with some bytes changed.
func TestParseOfChangedTexts(t *testing.T) {
	r := rand.New(rand.NewSource(1407))
	accepted := 0
	for range 6000 {
		s := modelText(drawn(r))
		for range 1 + r.Intn(2) {
			s = drawnChange(r, s)
		}
		wantModelAndText(t, s)
		if _, _, err := spec.Parse(s); err == api.OK {
			accepted++
		}
	}
	if accepted < 200 {
		t.Errorf("only %d texts were accepted", accepted)
	}
}

// R1: any pieces of texts one after the other.
func TestParseOfDrawnPieces(t *testing.T) {
	r := rand.New(rand.NewSource(1408))
	pieces := []string{"place", "arc", "type", "order", "apart", "before", "end", " ", " ", " ", "\n", "\n", "0", "1", "-1", "a", "on", "off", ".", "0:1", "1,2", "0:0:1:1", "-1:0:0:0", "\"", "end\n", "place a\n", "apart 0 1\n", "arc 0 1 0 0 0:1 .\n", "\x00", "é"}
	for range 60000 {
		var b strings.Builder
		for range r.Intn(12) {
			b.WriteString(oneOf(r, pieces...))
		}
		wantModelAndText(t, b.String())
	}
}
