package spec_test

import (
	"math"
	"slices"
	"strconv"
	"strings"
	"testing"

	"lorry/api"
)

// maxText is the greatest number of bytes of a text.
const maxText = 65536

// large returns a valid instance with as much of everything as there can be; its arcs have so many points.
func large(points int) api.Instance {
	var x api.Instance
	name := func(c string, i int) string { return strings.Repeat(c, 14) + strconv.Itoa(10+i) }
	for i := range 24 {
		x.Net.Places = append(x.Net.Places, name("p", i))
	}
	for i := range 1024 {
		a := api.Arc{From: i % 512 / 23, To: i % 512 % 23, Profile: 6 + i/512, Miles: i}
		if a.To >= a.From {
			a.To++
		}
		for k := range points {
			a.Travel, a.Slow = append(a.Travel, api.Point{T: 4081 + k, A: 8000 + k}), append(a.Slow, api.Point{T: 4081 + k, A: 4096 - k})
		}
		x.Net.Arcs = append(x.Net.Arcs, a)
	}
	for i := range 6 {
		x.Types = append(x.Types, api.Type{Name: name("t", i), Count: 10, From: 23, To: 22, Cap: []int{1000, 999, 998}, Skills: 1<<30 - 1, Profile: 7, Open: 4095, Close: 4096, Drive: 4094, Rest: 4093, Fixed: 100000, PerMile: 100, PerTick: 99})
	}
	for i := range 10 {
		stop := api.Stop{Place: 23 - i, Open: 4000, Close: 4096, Service: 4095}
		x.Orders = append(x.Orders, api.Order{Name: name("o", i), Load: []int{1000, 500, 1}, Pick: stop, Drop: stop, Skills: 1<<30 - 1, Penalty: 1000000, Split: 1, Last: 5, Now: 4, Off: i%2 == 1})
	}
	for i := range 16 {
		x.Apart, x.Before = append(x.Apart, [2]int{i%8 + i/8 + 1, i % 8}), append(x.Before, [2]int{i % 8, i%8 + i/8 + 1})
	}
	return x
}

// sized returns a valid instance whose text has so many bytes: long arcs, then short ones, of which some get more digits.
func sized(size int) api.Instance {
	x := large(16)
	arcs := x.Net.Arcs
	x.Net.Arcs = nil
	room := size - len(modelText(x))
	for i, a := range arcs {
		if i > 0 && room < 500 {
			a.Travel, a.Slow = []api.Point{{}}, nil
		}
		a.Miles = 0
		cost := len(modelText(api.Instance{Net: api.Network{Arcs: []api.Arc{a}}})) - len("end\n")
		if cost > room {
			break
		}
		x.Net.Arcs, room = append(x.Net.Arcs, a), room-cost
	}
	for i := range x.Net.Arcs {
		digits := min(room, 4)
		x.Net.Arcs[i].Miles, room = int(math.Pow10(digits)), room-digits
	}
	return x
}

// P14.1, P14.2, P14.4: the longest texts, and one byte more.
func TestLongestTexts(t *testing.T) {
	for size := maxText - 40; size <= maxText+40; size++ {
		x := sized(size)
		s := modelText(x)
		if len(s) != size || firstFault(x) != api.OK {
			t.Fatalf("a text of %d bytes instead of %d, error %d", len(s), size, firstFault(x))
		}
		if size <= maxText {
			wantPrinted(t, x, s)
			wantParsed(t, s, x)
		} else {
			wantNotPrinted(t, x, api.ErrSize)
			wantRefused(t, s, 0, api.ErrSize)
		}
	}
}

// P14.1: a violation comes before a text that is too long.
func TestPrintChecksBeforeItMeasures(t *testing.T) {
	wantNotPrinted(t, large(16), api.ErrSize)
	for _, c := range []struct {
		change func(x *api.Instance)
		want   api.Errno
	}{
		{func(x *api.Instance) { x.Net.Places[23] = "2x" }, api.ErrName},
		{func(x *api.Instance) { x.Net.Arcs[1023].To = 24 }, api.ErrPlace},
		{func(x *api.Instance) { x.Types[5].Drive = 0 }, api.ErrRest},
		{func(x *api.Instance) { x.Orders[9].Drop.Close = 0 }, api.ErrWindow},
		{func(x *api.Instance) { x.Apart[15] = [2]int{0, 0} }, api.ErrArg},
		{func(x *api.Instance) { x.Before[15] = x.Before[14] }, api.ErrTwice},
	} {
		x := large(16)
		c.change(&x)
		wantNotPrinted(t, x, c.want)
		// Parse cannot know the instance of a text that is too long.
		wantRefused(t, modelText(x), 0, api.ErrSize)
	}
}

// P14.2: a text that is too long is refused whatever it has.
func TestParseMeasuresFirst(t *testing.T) {
	for _, s := range []string{"x", " ", "\n", "end\n", "place a\n", "\x00", "\""} {
		long := strings.Repeat(s, maxText/len(s))
		wantNoForm(t, long[:maxText-1]+"x", wrongLine(s))
		wantRefused(t, long+"x", 0, api.ErrSize)
		wantRefused(t, "x"+long, 0, api.ErrSize)
		wantRefused(t, strings.Repeat(long, 16), 0, api.ErrSize)
	}
	wantRefused(t, joined(slices.Repeat([]string{"place b"}, 8191)...)+"end\n", 0, api.ErrSize)
	wantRefused(t, joined(slices.Repeat([]string{"place 9"}, 8191)...)+"end\n", 0, api.ErrSize)
	wantNoForm(t, joined(slices.Repeat([]string{"place b"}, 8192)...), 8193)
	wantRefused(t, strings.Repeat("place b\n", 8192)+"end\n", 0, api.ErrSize)
}

// wrongLine returns the line of the error in a text that repeats lines.
func wrongLine(s string) int {
	switch s {
	case "end\n":
		return 2
	case "place a\n":
		return 8192
	}
	return 1
}

// P14.1, P14.2, P14.4: as much of everything as there can be.
func TestLargeInstances(t *testing.T) {
	x := large(1)
	if err := firstFault(x); err != api.OK {
		t.Fatalf("error %d", err)
	}
	wantPrinted(t, x, modelText(x))
	wantParsed(t, modelText(x), x)
	wantNotPrinted(t, large(16), api.ErrSize)
	wantRefused(t, modelText(large(16)), 0, api.ErrSize)
	wantNotPrinted(t, large(0), api.ErrSize)
	wantRefused(t, modelText(large(0)), 0, api.ErrSize)
}

// P14.2: more of a kind than there can be.
func TestParseCountsByCheck(t *testing.T) {
	for what, change := range map[string]func(x *api.Instance){
		"places": func(x *api.Instance) { x.Net.Places = append(x.Net.Places, "more") },
		"arcs":   func(x *api.Instance) { x.Net.Arcs = append(x.Net.Arcs, api.Arc{To: 1, Travel: []api.Point{{}}}) },
		"types":  func(x *api.Instance) { x.Types = append(x.Types, x.Types[0]); x.Types[6].Name = "more" },
		"orders": func(x *api.Instance) { x.Orders = append(x.Orders, x.Orders[0]); x.Orders[10].Name = "more" },
		"apart":  func(x *api.Instance) { x.Apart = append(x.Apart, [2]int{0, 9}) },
		"before": func(x *api.Instance) { x.Before = append(x.Before, [2]int{0, 9}) },
	} {
		x := large(1)
		change(&x)
		if err := firstFault(x); err != api.ErrSize {
			t.Errorf("%s: error %d", what, err)
		}
		wantRefused(t, modelText(x), 0, api.ErrSize)
		wantNotPrinted(t, x, api.ErrSize)
	}
}

// P14.2, R1: one line, or one part, that is as long as a text.
func TestParseOfLongParts(t *testing.T) {
	for _, c := range []struct {
		before, part, after string
		want                api.Errno
	}{
		{"place ", "a", "\nend\n", api.ErrName},
		{"place ", "\"", "\nend\n", api.ErrForm},
		{"place a", " b", "\nend\n", api.ErrForm},
		{"arc 0 0 0 0 0:0", ",1:1", " .\nend\n", api.ErrPlace},
		{"arc 0 0 0 0 0:0", ",", " .\nend\n", api.ErrForm},
		{"arc 0 0 0 0 . 0:0", ":0", "\nend\n", api.ErrForm},
		{"arc ", "1", " 0 0 0 . .\nend\n", api.ErrForm},
		{"type v 0 0 0 0", ",0", " 0 0 0 0 0 0 0 0 0\nend\n", api.ErrPlace},
		{"order o 0", ",1", " . . 0 0 0 0 0 on\nend\n", api.ErrSize},
		{"order o 0 0:0:0:0", ":0", " . 0 0 0 0 0 on\nend\n", api.ErrForm},
	} {
		s := c.before + strings.Repeat(c.part, (maxText-len(c.before)-len(c.after))/len(c.part)) + c.after
		line := 0
		if c.want == api.ErrForm {
			line = 1
		}
		wantRefused(t, s, line, c.want)
	}
}
