package spec_test

import (
	"math/rand"
	"slices"
	"strings"
	"testing"

	"lorry/api"
	"lorry/spec"
)

// P14.2: each word has its field.
func TestParseReadsTheTown(t *testing.T) {
	wantParsed(t, townText, town())
}

// P14.2: each kind of lines that can be missing.
func TestParseReadsFewThings(t *testing.T) {
	wantParsed(t, "place A\ntype v 0 0 0 0 0 0 0 0 1 0 0 0 0\nend\n", api.Instance{Net: api.Network{Places: []string{"A"}}, Types: []api.Type{{Name: "v", Cap: []int{0}, Drive: 1}}})
	lines := linesOf(townText)
	for _, c := range []struct {
		change      func(x *api.Instance)
		first, last int
	}{
		{func(x *api.Instance) { x.Net.Arcs = nil }, 4, 6},
		{func(x *api.Instance) { x.Net.Arcs = x.Net.Arcs[2:] }, 4, 5},
		{func(x *api.Instance) { x.Orders, x.Apart, x.Before = nil, nil, nil }, 9, 16},
		{func(x *api.Instance) { x.Apart = nil }, 12, 13},
		{func(x *api.Instance) { x.Apart = x.Apart[:1] }, 13, 13},
		{func(x *api.Instance) { x.Before = nil }, 14, 16},
		{func(x *api.Instance) { x.Apart, x.Before = nil, nil }, 12, 16},
		{func(x *api.Instance) { x.Apart, x.Before = nil, x.Before[1:] }, 12, 14},
	} {
		wantParsed(t, joined(slices.Concat(lines[:c.first-1], lines[c.last:])...), with(c.change))
	}
}

// P14.2: an example of the chapter; the form is right, and the instance is not.
func TestParseHasItsExample(t *testing.T) {
	wantRefused(t, "end\n", 0, api.ErrSize)
}

// P14.2: the code of the first violation of an instance.
func TestParseRefusesInstances(t *testing.T) {
	eachViolation(func(x api.Instance, want api.Errno) { wantRefused(t, modelText(x), 0, want) })
	lines := linesOf(townText)
	for _, c := range []struct {
		text string
		want api.Errno
	}{
		{withLine(townText, 1, "place 2x"), api.ErrName},
		{withLine(townText, 1, "place a-b"), api.ErrName},
		{withLine(townText, 1, "place ."), api.ErrName},
		{withLine(townText, 1, "place 5"), api.ErrName},
		{withLine(townText, 1, `place a\b`), api.ErrName},
		{withLine(townText, 1, "place seventeen_letters"), api.ErrName},
		{withLine(townText, 2, "place hub"), api.ErrTwice},
		{withLine(townText, 4, "arc 0 1 2 3 . ."), api.ErrSize},
		{withLine(townText, 4, "arc 0 1 2 3 4:10,3:40 ."), api.ErrFifo},
		{withLine(townText, 4, "arc 0 1 2 3 4:10 5:6,5:8"), api.ErrArg},
		{withLine(townText, 4, "arc -1 1 2 3 4:10 ."), api.ErrPlace},
		{withLine(townText, 4, "arc 1 0 2 3 4:10 ."), api.ErrTwice},
		{withLine(townText, 7), api.ErrArg},
		{withLine(withLine(townText, 7), 7), api.ErrSize},
		{withLine(townText, 9), api.ErrArg},
		{strings.Replace(townText, "9,4", ".", 1), api.ErrLoad},
		{strings.Replace(townText, "9,4", "9", 1), api.ErrLoad},
		{strings.Replace(townText, "3,1", ".", 1), api.ErrLoad},
		{strings.Replace(townText, " . 1:10:20:5", " . .", 1), api.ErrPair},
		{strings.Replace(townText, " . 1:10", " -1:0:0:1 1:10", 1), api.ErrWindow},
		{strings.Replace(townText, " . 1:10", " -2:0:0:0 1:10", 1), api.ErrPlace},
		{strings.Replace(townText, " 3 6 11 ", " 9223372036854775807 6 11 ", 1), api.ErrSkill},
		{strings.Replace(townText, " 3 6 11 ", " -9223372036854775808 6 11 ", 1), api.ErrSkill},
		{joined(append(slices.Repeat([]string{"place A"}, 25), lines...)...), api.ErrSize},
		{joined("place A", "type v 0 0 0 1,2,3,4 0 0 0 0 1 0 0 0 0", "end"), api.ErrLoad},
		{joined("place A", "type v 0 0 0 0 0 0 0 0 1 0 0 0 0", "apart 0 0", "end"), api.ErrArg},
		{joined("place A", "type v 0 0 0 0 0 0 0 0 1 0 0 0 0", "before 0 1", "end"), api.ErrArg},
		{joined("place A", "end"), api.ErrSize},
		{joined("type v 0 0 0 0 0 0 0 0 1 0 0 0 0", "end"), api.ErrPlace},
		{joined("arc 0 0 0 0 . .", "end"), api.ErrPlace},
		{joined("order o 0 . . 0 0 0 0 0 on", "end"), api.ErrSize},
		{joined(slices.Concat(lines[:11], slices.Repeat([]string{"apart 1 2"}, 17), lines[16:])...), api.ErrSize},
		{joined(slices.Concat(lines[:13], slices.Repeat([]string{"before 1 2"}, 17), lines[16:])...), api.ErrSize},
	} {
		wantRefused(t, c.text, 0, c.want)
	}
}

// P14.2: the errors of the form come before those of the instance, wherever they are.
func TestParseChecksTheFormFirst(t *testing.T) {
	eachViolation(func(x api.Instance, _ api.Errno) {
		s := modelText(x)
		lines := len(linesOf(s))
		wantRefused(t, s+"end\n", lines+1, api.ErrForm)
		wantRefused(t, strings.TrimSuffix(s, "\n"), lines, api.ErrForm)
		wantRefused(t, strings.TrimSuffix(s, "end\n"), lines, api.ErrForm)
		wantRefused(t, withLine(s, 8, "type"), 8, api.ErrForm)
	})
}

// P14.2
func TestParseFollowsTheModel(t *testing.T) {
	r := rand.New(rand.NewSource(1405))
	for range 2000 {
		x := drawn(r)
		wantParsed(t, modelText(x), x)
	}
}

// P14.2: instances with violations, of which some have names that are no words.
func TestParseOfInstancesWithViolations(t *testing.T) {
	r := rand.New(rand.NewSource(1406))
	refused := 0
	for range 10000 {
		s := modelText(changed(r, drawn(r)))
		wantModel(t, s)
		if _, line, err := spec.Parse(s); err != api.OK && line == 0 {
			refused++
		}
	}
	if refused < 2000 {
		t.Errorf("only %d instances were refused", refused)
	}
}

// wantModel compares Parse with its model.
func wantModel(t *testing.T, s string) {
	t.Helper()
	if want, line, err := modelParse(s); err == api.OK {
		wantParsed(t, s, want)
	} else {
		wantRefused(t, s, line, err)
	}
}
