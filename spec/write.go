package spec

import (
	"strings"

	"lorry/api"
	"lorry/text"
)

// The first words of the lines.
const (
	placeWord  = "place"
	arcWord    = "arc"
	typeWord   = "type"
	orderWord  = "order"
	apartWord  = "apart"
	beforeWord = "before"
	endWord    = "end"
)

// The last words of the lines of orders.
const (
	onWord  = "on"
	offWord = "off"
)

const (
	none  = "." // an empty list, or a stop that is none
	outer = "," // between the elements of a list
	inner = ":" // between the numbers of a point or of a stop
)

func noStop() api.Stop { return api.Stop{Place: -1} }

// textOf returns the text of an instance.
func textOf(x api.Instance) string {
	var b strings.Builder
	line := func(words ...string) {
		b.WriteString(text.Join(words))
		b.WriteByte('\n')
	}
	for _, name := range x.Net.Places {
		line(placeWord, name)
	}
	for _, a := range x.Net.Arcs {
		line(arcWord, text.Decimal(a.From), text.Decimal(a.To), text.Decimal(a.Profile), text.Decimal(a.Miles), Travel(a.Travel), Travel(a.Slow))
	}
	for _, t := range x.Types {
		line(typeWords(t)...)
	}
	for _, o := range x.Orders {
		line(orderWords(o)...)
	}
	for _, p := range x.Apart {
		line(apartWord, text.Decimal(p[0]), text.Decimal(p[1]))
	}
	for _, p := range x.Before {
		line(beforeWord, text.Decimal(p[0]), text.Decimal(p[1]))
	}
	line(endWord)
	return b.String()
}

func typeWords(t api.Type) []string {
	words := []string{typeWord, t.Name, text.Decimal(t.Count), text.Decimal(t.From), text.Decimal(t.To), list(t.Cap, text.Decimal)}
	for _, n := range []int{t.Skills, t.Profile, t.Open, t.Close, t.Drive, t.Rest, t.Fixed, t.PerMile, t.PerTick} {
		words = append(words, text.Decimal(n))
	}
	return words
}

func orderWords(o api.Order) []string {
	words := []string{orderWord, o.Name, list(o.Load, text.Decimal), Stop(o.Pick), Stop(o.Drop)}
	for _, n := range []int{o.Skills, o.Penalty, o.Split, o.Last, o.Now} {
		words = append(words, text.Decimal(n))
	}
	if o.Off {
		return append(words, offWord)
	}
	return append(words, onWord)
}

// list returns the texts of the elements of a list, separated by commas, or a dot.
func list[E any](l []E, textOfOne func(E) string) string {
	if len(l) == 0 {
		return none
	}
	texts := make([]string, len(l))
	for i, one := range l {
		texts[i] = textOfOne(one)
	}
	return strings.Join(texts, outer)
}
