// Package sample makes instances, routes and schedules for the tests of the layers, from short texts and by drawing.
package sample

import (
	"strconv"
	"strings"
	"unicode"

	"lorry/api"
)

// Town returns an instance with the arcs, the types and the orders of three lists with commas.
//
// An arc 0>1 7 is one from the place 0 to the place 1 that takes 7 ticks; 0>1 5m 0:10 9:12 ~30:4 p3 has 5 miles, two points, a delay of 4 ticks for departures from 30 on, and the profile 3. A type 0>2 5-90 40/7 is one from the place 0 to the place 2 whose shift is from 5 to 90, with the Drive 40 and the Rest 7; p3 behind it is a profile. An order is a pickup and a delivery: 1@30-40+2 is a stop at the place 1 from 30 to 40, which takes 2 ticks; - is none.
func Town(arcs, types, orders string) api.Instance {
	x := api.Instance{Net: api.Network{Places: places()}}
	for _, s := range list(arcs) {
		x.Net.Arcs = append(x.Net.Arcs, Arc(s))
	}
	for i, s := range list(types) {
		one := vehicle(s)
		one.Name, one.Count, one.Cap = "van"+strconv.Itoa(i), 1, []int{9}
		x.Types = append(x.Types, one)
	}
	for i, s := range list(orders) {
		stops := strings.Fields(s)
		x.Orders = append(x.Orders, api.Order{Name: "o" + strconv.Itoa(i), Load: []int{1}, Pick: stop(stops[0]), Drop: stop(stops[1]), Penalty: -1, Split: 1, Last: -1, Now: -1})
	}
	return x
}

func places() []string { return []string{"hub", "mill", "dock", "farm", "port"} }

func list(s string) []string {
	if s == "" {
		return nil
	}
	return strings.Split(s, ", ")
}

// numbers returns the numbers of a text, which has other characters between them.
func numbers(s string, count int) []int {
	parts := strings.FieldsFunc(s, func(c rune) bool { return !unicode.IsDigit(c) })
	l := make([]int, 0, count)
	for _, part := range parts {
		n, err := strconv.Atoi(part)
		if err != nil {
			panic(err)
		}
		l = append(l, n)
	}
	if len(l) != count {
		panic(s + " does not have " + strconv.Itoa(count) + " numbers")
	}
	return l
}

// Arc returns the arc of a text, which is written as those of Town are.
func Arc(s string) api.Arc {
	fields := strings.Fields(s)
	ends := numbers(fields[0], 2)
	a := api.Arc{From: ends[0], To: ends[1]}
	for _, field := range fields[1:] {
		switch {
		case strings.HasSuffix(field, "m"):
			a.Miles = numbers(field, 1)[0]
		case field[0] == '~':
			a.Slow = append(a.Slow, point(field))
		case field[0] == 'p':
			a.Profile = numbers(field, 1)[0]
		case strings.Contains(field, ":"):
			a.Travel = append(a.Travel, point(field))
		default:
			a.Travel = append(a.Travel, api.Point{A: numbers(field, 1)[0]})
		}
	}
	return a
}

func point(s string) api.Point {
	l := numbers(s, 2)
	return api.Point{T: l[0], A: l[1]}
}

func vehicle(s string) api.Type {
	s, profile, ok := strings.Cut(s, " p")
	l := numbers(s, 6)
	one := api.Type{From: l[0], To: l[1], Open: l[2], Close: l[3], Drive: l[4], Rest: l[5]}
	if ok {
		one.Profile = numbers(profile, 1)[0]
	}
	return one
}

func stop(s string) api.Stop {
	if s == "-" {
		return api.Stop{Place: -1}
	}
	l := numbers(s, 4)
	return api.Stop{Place: l[0], Open: l[1], Close: l[2], Service: l[3]}
}
