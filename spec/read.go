package spec

import (
	"strings"

	"lorry/api"
	"lorry/text"
)

// reader goes through the lines of a text.
type reader struct {
	rest  string   // the lines that follow
	line  int      // the number of the present line
	words []string // its words
}

// read returns the instance of a text, or the number of the first line that cannot be read. The functions below panic at such a line, so that they need no errors.
func read(s string) (x api.Instance, line int, err api.Errno) {
	r := reader{rest: s}
	defer func() {
		if recover() != nil {
			line, err = r.line, api.ErrForm
		}
	}()
	return r.instance(), 0, api.OK
}

// demand panics if a text is not as it must be.
func demand(holds bool) {
	if !holds {
		panic(api.ErrForm)
	}
}

// instance reads all lines. Those of a kind that is not in its order are left for the line end, which refuses them.
func (r *reader) instance() api.Instance {
	var x api.Instance
	r.next()
	x.Net.Places = lines(r, placeWord, 1, func(parts []string) string { return parts[0] })
	x.Net.Arcs = lines(r, arcWord, 6, arcOf)
	x.Types = lines(r, typeWord, 14, typeOf)
	x.Orders = lines(r, orderWord, 10, orderOf)
	x.Apart = lines(r, apartWord, 2, pairOf)
	x.Before = lines(r, beforeWord, 2, pairOf)
	demand(len(r.words) == 1 && r.words[0] == endWord)
	// What follows the line end is wrong from its first line on.
	r.line++
	demand(r.rest == "")
	return x
}

// next goes to the next line, which has at least one word and no quoted strings.
func (r *reader) next() {
	r.line++
	line, rest, ended := strings.Cut(r.rest, "\n")
	words, err := text.Words(line)
	demand(ended && err == api.OK && len(words) > 0)
	for _, w := range words {
		demand(w[0] != '"')
	}
	r.rest, r.words = rest, words
}

// lines reads all lines that begin with a word, up to the first one that does not. Each has so many parts behind this word.
func lines[E any](r *reader, word string, parts int, readOne func(parts []string) E) []E {
	var l []E
	for ; r.words[0] == word; r.next() {
		demand(len(r.words) == 1+parts)
		l = append(l, readOne(r.words[1:]))
	}
	return l
}

func arcOf(parts []string) api.Arc {
	return api.Arc{
		From:    number(parts[0]),
		To:      number(parts[1]),
		Profile: number(parts[2]),
		Miles:   number(parts[3]),
		Travel:  elements(parts[4], pointOf),
		Slow:    elements(parts[5], pointOf),
	}
}

func typeOf(parts []string) api.Type {
	return api.Type{
		Name:    parts[0],
		Count:   number(parts[1]),
		From:    number(parts[2]),
		To:      number(parts[3]),
		Cap:     elements(parts[4], number),
		Skills:  number(parts[5]),
		Profile: number(parts[6]),
		Open:    number(parts[7]),
		Close:   number(parts[8]),
		Drive:   number(parts[9]),
		Rest:    number(parts[10]),
		Fixed:   number(parts[11]),
		PerMile: number(parts[12]),
		PerTick: number(parts[13]),
	}
}

func orderOf(parts []string) api.Order {
	off := parts[9] == offWord
	demand(off || parts[9] == onWord)
	return api.Order{
		Name:    parts[0],
		Load:    elements(parts[1], number),
		Pick:    stopOf(parts[2]),
		Drop:    stopOf(parts[3]),
		Skills:  number(parts[4]),
		Penalty: number(parts[5]),
		Split:   number(parts[6]),
		Last:    number(parts[7]),
		Now:     number(parts[8]),
		Off:     off,
	}
}

func pairOf(parts []string) [2]int {
	return [2]int{number(parts[0]), number(parts[1])}
}

func number(part string) int {
	n, err := text.Number(part)
	demand(err == api.OK)
	return n
}

// elements reads a list.
func elements[E any](part string, readOne func(string) E) []E {
	if part == none {
		return nil
	}
	texts := strings.Split(part, outer)
	l := make([]E, len(texts))
	for i, s := range texts {
		l[i] = readOne(s)
	}
	return l
}

func pointOf(part string) api.Point {
	n := numbers(part, 2)
	return api.Point{T: n[0], A: n[1]}
}

func stopOf(part string) api.Stop {
	if part == none {
		return noStop()
	}
	n := numbers(part, 4)
	s := api.Stop{Place: n[0], Open: n[1], Close: n[2], Service: n[3]}
	// This stop has another text.
	demand(s != noStop())
	return s
}

// numbers reads so many numbers that are separated by colons.
func numbers(part string, count int) []int {
	texts := strings.Split(part, inner)
	demand(len(texts) == count)
	l := make([]int, count)
	for i, s := range texts {
		l[i] = number(s)
	}
	return l
}
