package spec_test

import (
	"slices"
	"strings"
	"testing"

	"lorry/api"
	"lorry/spec"
)

// wantNoForm checks that a text has the error of its form in a line.
func wantNoForm(t *testing.T, s string, line int) {
	t.Helper()
	wantRefused(t, s, line, api.ErrForm)
}

// P14.2: texts whose line end is missing, or that go on behind it.
func TestParseWantsTheLineEnd(t *testing.T) {
	for _, c := range []struct {
		text string
		line int
	}{
		{"", 1},
		{"\n", 1},
		{" ", 1},
		{"\n\n", 1},
		{"end", 1},
		{"End\n", 1},
		{"END\n", 1},
		{"en\n", 1},
		{"ends\n", 1},
		{"end \n", 1},
		{" end\n", 1},
		{"end end\n", 1},
		{"end 0\n", 1},
		{"end .\n", 1},
		{"\"end\"\n", 1},
		{"end\r\n", 1},
		{"end\x00\n", 1},
		{"\ufeffend\n", 1},
		{"\nend\n", 1},
		{"end\n\n", 2},
		{"end\n ", 2},
		{"end\nend\n", 2},
		{"end\nend", 2},
		{"end\n\n\n\n", 2},
		{"end\nplace a", 2},
		{"end\nplace a\n", 2},
		{"end\n\x00", 2},
		{"place a", 1},
		{"place a\n", 2},
		{"place a\nend", 2},
		{"place a\n\nend\n", 2},
		{"place a\nplace b", 2},
		{"place a\nplace b\n", 3},
		{"place a\nend\nplace b\n", 3},
		{"place a\nend\nplace b", 3},
		{"place a\nend\n\n", 3},
	} {
		wantNoForm(t, c.text, c.line)
	}
	for i := range linesOf(townText) {
		wantNoForm(t, joined(linesOf(townText)[:i]...), i+1)
		wantNoForm(t, strings.TrimSuffix(joined(linesOf(townText)[:i+1]...), "\n"), i+1)
		wantNoForm(t, townText+joined(linesOf(townText)[:i+1]...), 18)
	}
}

// P14.2: each line that begins or ends with something else, or is another one.
func TestParseWantsTheFormOfEachLine(t *testing.T) {
	for i, line := range linesOf(townText) {
		words := strings.Split(line, " ")
		wrong := []string{"", " ", "  ", "\t", " " + line, line + " ", line + "  ", "\t" + line, line + "\t", line + "\r", "\r" + line, line + " .", line + " 0", line + " on", line + ` ""`, `"" ` + line, "x " + line, "#" + line, "# " + line, line + " #", strings.ToUpper(words[0]) + line[len(words[0]):], strings.ToUpper(line[:1]) + line[1:], words[0] + "s" + line[len(words[0]):], words[0][1:] + line[len(words[0]):], "\"" + line + "\"", line + line, "stop 1", "node a", "begin", "plan", "end end", "\x00", "é", "\xff"}
		for k, w := range words {
			cut := slices.Delete(slices.Clone(words), k, k+1)
			wrong = append(wrong, strings.Join(cut, " "))
			for _, other := range []string{`"` + w + `"`, `""`, `"a b"`, `a"b`, w + `"`, `"` + w, "", "\t", w + "\t", "\t" + w, w + "\x7f", w + "é", w + " ", " " + w, w + "\n", w + "\r", "\n" + w, w + "\n" + w, w + " " + w, w + "\x00"} {
				changed := slices.Clone(words)
				changed[k] = other
				wrong = append(wrong, strings.Join(changed, " "))
			}
			if k > 0 {
				wrong = append(wrong, strings.Join(words[:k], " "), strings.Join(words[:k], " ")+"  "+strings.Join(words[k:], " "), strings.Join(words[:k], " ")+"\t"+strings.Join(words[k:], " "), strings.Join(words[:k], " ")+"\u00a0"+strings.Join(words[k:], " "))
			}
		}
		for _, w := range wrong {
			if splitsOff(w) {
				continue
			}
			wantNoForm(t, withLine(townText, i+1, w), i+1)
		}
	}
}

// splitsOff reports whether the first of several lines can be right, so that the error is in another one.
func splitsOff(line string) bool {
	first, _, several := strings.Cut(line, "\n")
	return several && kindOf(first+"\n") >= 0
}

// P14.2: an empty line anywhere.
func TestParseRefusesEmptyLines(t *testing.T) {
	for i, line := range linesOf(townText) {
		for _, empty := range []string{"", " ", "\t", "\r"} {
			wantNoForm(t, withLine(townText, i+1, empty, line), i+1)
			wantNoForm(t, withLine(townText, i+1, line, empty), i+2)
		}
	}
	wantNoForm(t, strings.ReplaceAll(townText, "\n", "\r\n"), 1)
	wantNoForm(t, strings.ReplaceAll(townText, "\n", "\n\n"), 2)
	wantNoForm(t, strings.ReplaceAll(townText, "\n", "\r"), 1)
}

// firstOutOfOrder returns the number of the first line that does not stand where its first word allows it, or 0.
func firstOutOfOrder(lines []string) int {
	const order = "place arc type order apart before end"
	last := 0
	for i, line := range lines {
		word, _, _ := strings.Cut(line, " ")
		rank := strings.Index(order, word)
		if rank < last || i > 0 && lines[i-1] == "end" {
			return i + 1
		}
		last = rank
	}
	if lines[len(lines)-1] != "end" {
		return len(lines) + 1
	}
	return 0
}

// P14.2: each line is moved to each other place, or is there a second time.
func TestParseWantsTheKindsInTheirOrder(t *testing.T) {
	lines := linesOf(townText)
	wrong := 0
	for i, line := range lines {
		for k := range len(lines) + 1 {
			twice := slices.Insert(slices.Clone(lines), k, line)
			moved := slices.Delete(slices.Clone(twice), i, i+1)
			if k <= i {
				moved = slices.Delete(slices.Clone(twice), i+1, i+2)
			}
			for _, l := range [][]string{twice, moved} {
				if n := firstOutOfOrder(l); n > 0 {
					wantNoForm(t, joined(l...), n)
					wrong++
				} else {
					wantModel(t, joined(l...))
				}
			}
		}
	}
	if wrong < 300 {
		t.Errorf("only %d texts were out of order", wrong)
	}
}

// P14.2: a line of each kind before one of each other kind.
func TestParseOfTwoKinds(t *testing.T) {
	kinds := []string{"place a", "arc 0 1 0 5 0:1 .", "type v 1 0 0 5 0 0 0 0 1 0 0 0 0", "order o 1 . 0:0:0:0 0 0 1 -1 -1 on", "apart 0 1", "before 0 1", "end"}
	for i, first := range kinds {
		for k, second := range kinds {
			s := joined(first, second)
			switch {
			case k < i || first == "end":
				wantNoForm(t, s, 2)
				wantNoForm(t, s+"end\n", 2)
			case second == "end":
				wantModel(t, s)
			default:
				wantNoForm(t, s, 3)
				if _, line, err := spec.Parse(s + "end\n"); err == api.ErrForm || line != 0 {
					t.Errorf("Parse(%q) has the error %d in line %d", s+"end\n", err, line)
				}
				wantModel(t, s+"end\n")
			}
		}
	}
}

// noNumbers are no numbers, and no lists of them.
var noNumbers = []string{
	"+1", "+0", "-0", "00", "01", "007", "-01", "-", "--1", "-+1", "1-", "x", "0x1", "1e1", "1_0", "1.0", ".5", "1.", "..", "1/2", "on", "off", "¹", "٣",
	"9223372036854775808", "-9223372036854775809", "18446744073709551616", "99999999999999999999", strings.Repeat("1", 1000), "1;2", "1|2",
}

// wrongParts has, for each letter of forms, parts that it refuses.
func wrongParts() map[byte][]string {
	lists := []string{",", ",1", "1,", "1,,2", ",1,2", "1,2,", ".,", ",.", ".,1", "1,.", "1;2", "..", "1:2"}
	points := []string{":", "1", "1,2", "1:", ":1", "1:2:3", "1::2", ":1:2", "1:2:", "1:2,", ",1:2", "1:2,,3:4", "1:2,3", "1,2:3", "1:2,3:", "1:2,:3", "1:2,3:4:5", "1:2;3:4", ".:.", ".,1:2", "1:2,.", ".:1", "1:.", "1:2:3:4"}
	stops := []string{"-1:0:0:0", ":", "::", ":::", "::::", "1", "1:2", "1:2:3", "1:2:3:", ":1:2:3", "1::2:3", "1:2:3:4:", ":1:2:3:4", "1:2:3:4:5", "1:2::3:4", "1,2,3,4", "1:2:3:4,1:2:3:4", ".:.:.:.", ".:0:0:0", "1:2:3:.", "-1", "-1:0:0", "-1:0:0:0:0", "1.2.3.4"}
	for _, n := range noNumbers {
		lists = append(lists, n, n+",1", "1,"+n, "1,"+n+",2")
		points = append(points, n+":1", "1:"+n, "1:2,"+n+":3", "1:2,3:"+n, n+":1,2:3")
		stops = append(stops, n+":1:2:3", "1:"+n+":2:3", "1:2:"+n+":3", "1:2:3:"+n)
	}
	return map[byte][]string{
		'w': nil,
		'n': append([]string{".", ",", ":", "1,2", "1:2", "-1:0:0:0", "1,", ",1"}, noNumbers...),
		'l': lists,
		'p': points,
		's': stops,
		'o': {"ON", "Off", "o", "onn", "of", "offf", "0", "1", "true", "false", ".", "on,off", "cancelled", "end"},
	}
}

// rightParts has, for each letter of forms, parts whose form is right.
func rightParts() map[byte][]string {
	return map[byte][]string{
		'w': {"a", "A_1", "2", "-1", "+1", "1:2", "1,2", ".", ",", ":", "place", "end", "on", "off", "a-b", `\`, `\n`, `a\x00`, "'", "!", "~", "#", "seventeen_letters", strings.Repeat("w", 1000)},
		'n': {"0", "1", "-1", "7", "10", "100", "4096", "9223372036854775807", "-9223372036854775808"},
		'l': {".", "0", "1", "-1", "3,1", "0,0,0", "1,2,3,4", "9223372036854775807,-9223372036854775808", strings.Repeat("1,", 1000) + "1"},
		'p': {".", "0:0", "1:2", "-1:-2", "0:5,20:35", "3:4,3:4", "5:6,1:2", "9223372036854775807:-9223372036854775808", strings.Repeat("1:2,", 1000) + "1:2"},
		's': {".", "0:0:0:0", "2:10:20:5", "-1:1:0:0", "-1:0:1:0", "-1:0:0:1", "-2:0:0:0", "1:0:0:0", "0:9223372036854775807:-9223372036854775808:-1"},
		'o': {"on", "off"},
	}
}

// eachPart replaces each part of each line of the town by others; show gets the line and the text.
func eachPart(others map[byte][]string, show func(line int, s string)) {
	for i, line := range linesOf(townText) {
		words := strings.Split(line, " ")
		for k, letter := range []byte(forms[kindOf(line+"\n")].parts) {
			for _, other := range others[letter] {
				changed := slices.Clone(words)
				changed[k+1] = other
				show(i+1, withLine(townText, i+1, strings.Join(changed, " ")))
			}
		}
	}
}

// P14.2: what text.Number refuses, lists, points and stops of another form, and other last words.
func TestParseRefusesWrongParts(t *testing.T) {
	eachPart(wrongParts(), func(line int, s string) { wantNoForm(t, s, line) })
}

// P14.2: parts whose form is right are refused by instance.Check at most.
func TestParseAcceptsTheFormOfRightParts(t *testing.T) {
	accepted := 0
	eachPart(rightParts(), func(line int, s string) {
		_, n, err := spec.Parse(s)
		if err == api.ErrForm || n != 0 {
			t.Errorf("Parse(%q) has the error %d in line %d", s, err, n)
		}
		if err == api.OK {
			accepted++
		}
		wantModel(t, s)
	})
	if accepted < 100 {
		t.Errorf("only %d texts were accepted", accepted)
	}
}

// P14.2: of several wrong lines, the first one.
func TestParseReturnsTheFirstWrongLine(t *testing.T) {
	lines := len(linesOf(townText))
	for i := range lines {
		for k := range i {
			for _, wrong := range []string{"", "place", "arc 0", "end x", `place "a"`, "before 0 01"} {
				s := withLine(withLine(townText, i+1, wrong), k+1, "type v")
				wantNoForm(t, s, k+1)
				wantNoForm(t, strings.TrimSuffix(s, "\n"), k+1)
				wantNoForm(t, s+"end\n", k+1)
			}
		}
	}
}
