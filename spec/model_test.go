package spec_test

import (
	"fmt"
	"regexp"
	"strconv"
	"strings"

	"lorry/api"
)

// modelText returns the text of any instance.
func modelText(x api.Instance) string {
	var b strings.Builder
	for _, p := range x.Net.Places {
		fmt.Fprintf(&b, "place %s\n", p)
	}
	for _, a := range x.Net.Arcs {
		fmt.Fprintf(&b, "arc %d %d %d %d %s %s\n", a.From, a.To, a.Profile, a.Miles, modelPoints(a.Travel), modelPoints(a.Slow))
	}
	for _, v := range x.Types {
		fmt.Fprintf(&b, "type %s %d %d %d %s %d %d %d %d %d %d %d %d %d\n", v.Name, v.Count, v.From, v.To, modelList(v.Cap), v.Skills, v.Profile, v.Open, v.Close, v.Drive, v.Rest, v.Fixed, v.PerMile, v.PerTick)
	}
	for _, o := range x.Orders {
		state := map[bool]string{false: "on", true: "off"}[o.Off]
		fmt.Fprintf(&b, "order %s %s %s %s %d %d %d %d %d %s\n", o.Name, modelList(o.Load), modelStop(o.Pick), modelStop(o.Drop), o.Skills, o.Penalty, o.Split, o.Last, o.Now, state)
	}
	for _, p := range x.Apart {
		fmt.Fprintf(&b, "apart %d %d\n", p[0], p[1])
	}
	for _, p := range x.Before {
		fmt.Fprintf(&b, "before %d %d\n", p[0], p[1])
	}
	return b.String() + "end\n"
}

func modelStop(s api.Stop) string {
	if s.Place == -1 && s.Open == 0 && s.Close == 0 && s.Service == 0 {
		return "."
	}
	return fmt.Sprintf("%d:%d:%d:%d", s.Place, s.Open, s.Close, s.Service)
}

func modelPoints(l []api.Point) string {
	s := ""
	for _, p := range l {
		s += fmt.Sprintf(",%d:%d", p.T, p.A)
	}
	return dotIfEmpty(s)
}

func modelList(l []int) string {
	s := ""
	for _, n := range l {
		s += fmt.Sprintf(",%d", n)
	}
	return dotIfEmpty(s)
}

// dotIfEmpty returns a list whose elements have commas before them.
func dotIfEmpty(s string) string {
	if s == "" {
		return "."
	}
	return s[1:]
}

// form is the form of the lines of a kind: it has a letter for each part behind the first word.
type form struct {
	word, parts string
	line        *regexp.Regexp
}

// forms has the kinds of lines in their order.
var forms = []form{
	formOf("place", "w"), formOf("arc", "nnnnpp"), formOf("type", "wnnnlnnnnnnnnn"), formOf("order", "wlssnnnnno"),
	formOf("apart", "nn"), formOf("before", "nn"), formOf("end", ""),
}

func formOf(word, parts string) form {
	const n = `(-?[1-9][0-9]*|0)`
	pattern := word
	for _, part := range parts {
		pattern += " " + map[rune]string{
			'w': `[!#-~]+`,
			'n': n,
			'l': `(\.|` + n + `(,` + n + `)*)`,
			'p': `(\.|` + n + `:` + n + `(,` + n + `:` + n + `)*)`,
			's': `(\.|` + n + `:` + n + `:` + n + `:` + n + `)`,
			'o': `(on|off)`,
		}[part]
	}
	return form{word, parts, regexp.MustCompile(`^` + pattern + "\n$")}
}

// kindOf returns the number of the kind of a line with its line feed, or -1 if it has the form of none.
func kindOf(line string) int {
	for i, f := range forms {
		if strings.HasPrefix(line, f.word) && f.line.MatchString(line) && f.hasValues(strings.Fields(line)[1:]) {
			return i
		}
	}
	return -1
}

// hasValues reports whether all numbers of parts are ints, and no stop is one that is written as a dot.
func (f form) hasValues(parts []string) bool {
	for i, part := range parts {
		isNumbers := !strings.ContainsRune("wo", rune(f.parts[i]))
		for _, n := range numbersIn(part) {
			if _, err := strconv.Atoi(n); isNumbers && err != nil {
				return false
			}
		}
		if f.parts[i] == 's' && part == "-1:0:0:0" {
			return false
		}
	}
	return true
}

// numbersIn returns the texts of the numbers of a part.
func numbersIn(part string) []string {
	return strings.FieldsFunc(part, func(c rune) bool { return c == ',' || c == ':' || c == '.' })
}

// modelParse returns what Parse returns.
func modelParse(s string) (api.Instance, int, api.Errno) {
	if len(s) > 65536 {
		return api.Instance{}, 0, api.ErrSize
	}
	lines := strings.SplitAfter(s, "\n")
	var x api.Instance
	last := 0
	for i, line := range lines {
		kind := kindOf(line)
		if kind < last {
			return api.Instance{}, i + 1, api.ErrForm
		}
		last = kind
		addLine(&x, strings.Fields(line))
		if kind == len(forms)-1 {
			if i != len(lines)-2 || lines[i+1] != "" {
				return api.Instance{}, i + 2, api.ErrForm
			}
			break
		}
	}
	if err := firstFault(x); err != api.OK {
		return api.Instance{}, 0, err
	}
	return x, 0, api.OK
}

// addLine adds what a line has, whose form is right, to an instance.
func addLine(x *api.Instance, f []string) {
	n := func(i int) int { return modelNumbers(f[i])[0] }
	switch f[0] {
	case "place":
		x.Net.Places = append(x.Net.Places, f[1])
	case "arc":
		x.Net.Arcs = append(x.Net.Arcs, api.Arc{From: n(1), To: n(2), Profile: n(3), Miles: n(4), Travel: pointsOf(f[5]), Slow: pointsOf(f[6])})
	case "type":
		x.Types = append(x.Types, api.Type{Name: f[1], Count: n(2), From: n(3), To: n(4), Cap: modelNumbers(f[5]), Skills: n(6), Profile: n(7), Open: n(8), Close: n(9), Drive: n(10), Rest: n(11), Fixed: n(12), PerMile: n(13), PerTick: n(14)})
	case "order":
		x.Orders = append(x.Orders, api.Order{Name: f[1], Load: modelNumbers(f[2]), Pick: stopOf(f[3]), Drop: stopOf(f[4]), Skills: n(5), Penalty: n(6), Split: n(7), Last: n(8), Now: n(9), Off: f[10] == "off"})
	case "apart":
		x.Apart = append(x.Apart, [2]int{n(1), n(2)})
	case "before":
		x.Before = append(x.Before, [2]int{n(1), n(2)})
	}
}

// modelNumbers returns all numbers of a part.
func modelNumbers(part string) []int {
	var l []int
	for _, s := range numbersIn(part) {
		n, err := strconv.Atoi(s)
		if err != nil {
			panic(err)
		}
		l = append(l, n)
	}
	return l
}

func pointsOf(part string) []api.Point {
	var l []api.Point
	for n := modelNumbers(part); len(n) > 0; n = n[2:] {
		l = append(l, api.Point{T: n[0], A: n[1]})
	}
	return l
}

func stopOf(part string) api.Stop {
	n := append(modelNumbers(part), -1, 0, 0, 0)
	return api.Stop{Place: n[0], Open: n[1], Close: n[2], Service: n[3]}
}
