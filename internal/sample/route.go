package sample

import (
	"strconv"
	"strings"
	"unicode"

	"lorry/api"
	"lorry/spec"
)

// Route returns a route of a type with the visits of a text.
func Route(number, start int, s string) api.Route {
	return api.Route{Type: number, Start: start, Visits: Visits(s)}
}

// Visits returns the visits of a text: a is the pickup of the order 0, A its delivery, b the pickup of the order 1, and so on.
func Visits(s string) []api.Visit {
	var l []api.Visit
	for _, letter := range s {
		l = append(l, api.Visit{Order: int(unicode.ToLower(letter) - 'a'), Drop: unicode.IsUpper(letter)})
	}
	return l
}

// Rests returns the rests of a text: -*- are no rest, a rest, and no rest.
func Rests(s string) []bool {
	l := make([]bool, 0, len(s))
	for _, letter := range s {
		l = append(l, letter == '*')
	}
	return l
}

// ShowRests returns the text of rests.
func ShowRests(l []bool) string {
	var s strings.Builder
	for _, rest := range l {
		if rest {
			s.WriteByte('*')
		} else {
			s.WriteByte('-')
		}
	}
	return s.String()
}

// Show returns the text of a schedule: the departure, the arrival, the begin and the departure of each visit, the end and the miles; a rest is a star behind the departure.
func Show(s api.Sheet) string {
	l := []string{strconv.Itoa(s.Depart) + star(s.Rest)}
	for _, t := range s.Times {
		l = append(l, strconv.Itoa(t.Arrive)+"/"+strconv.Itoa(t.Begin)+"/"+strconv.Itoa(t.Depart)+star(t.Rest))
	}
	l = append(l, strconv.Itoa(s.End), strconv.Itoa(s.Miles)+"m")
	return strings.Join(l, " ")
}

func star(rest bool) string {
	if rest {
		return "*"
	}
	return ""
}

// ShowVisits returns the text of visits.
func ShowVisits(l []api.Visit) string {
	var s strings.Builder
	for _, v := range l {
		letter := 'a' + rune(v.Order)
		if v.Drop {
			letter = unicode.ToUpper(letter)
		}
		s.WriteRune(letter)
	}
	return s.String()
}

// About returns an instance and a route as text, for the message of a test.
func About(x api.Instance, r api.Route) string {
	s, err := spec.Print(x)
	if err != api.OK {
		s = "no valid instance; "
	}
	return s + "type " + strconv.Itoa(r.Type) + " start " + strconv.Itoa(r.Start) + " rests " + ShowRests(r.Rests) + " visits " + ShowVisits(r.Visits)
}
