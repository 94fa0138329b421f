package drive_test

import (
	"fmt"
	"math"
	"reflect"
	"strings"
	"testing"
	"unicode"

	"lorry/api"
	"lorry/drive"
	"lorry/instance"
)

// scan reads the numbers of a text of a form.
func scan(s, form string, numbers ...any) {
	if n, err := fmt.Sscanf(s+" .", form+" .", numbers...); err != nil || n != len(numbers) {
		panic(s + " is not of the form " + form)
	}
}

// point reads a point: 10:25.
func point(s string) (p api.Point) {
	scan(s, "%d:%d", &p.T, &p.A)
	return p
}

// arc reads an arc: 0>1 7 is one from the place 0 to the place 1 that takes 7 ticks; 0>1 5m 0:10 9:12 ~30:4 p3 has 5 miles, two points, a delay of 4 ticks for departures from 30 on, and the profile 3.
func arc(s string) (a api.Arc) {
	fields := strings.Fields(s)
	scan(fields[0], "%d>%d", &a.From, &a.To)
	for _, field := range fields[1:] {
		switch {
		case strings.HasSuffix(field, "m"):
			scan(field, "%dm", &a.Miles)
		case field[0] == '~':
			a.Slow = append(a.Slow, point(field[1:]))
		case field[0] == 'p':
			scan(field, "p%d", &a.Profile)
		case strings.Contains(field, ":"):
			a.Travel = append(a.Travel, point(field))
		default:
			p := api.Point{}
			scan(field, "%d", &p.A)
			a.Travel = append(a.Travel, p)
		}
	}
	return a
}

// stop reads a stop: 1@30-40+2 is one at the place 1 from 30 to 40, which takes 2 ticks; - is none.
func stop(s string) (p api.Stop) {
	if s == "-" {
		return api.Stop{Place: -1}
	}
	scan(s, "%d@%d-%d+%d", &p.Place, &p.Open, &p.Close, &p.Service)
	return p
}

// vehicle reads a type: 0>2 5-90 40/7 is one from the place 0 to the place 2 whose shift is from 5 to 90, with the Drive 40 and the Rest 7; p3 behind it is a profile.
func vehicle(s string) (one api.Type) {
	if !strings.Contains(s, "p") {
		s += " p0"
	}
	scan(s, "%d>%d %d-%d %d/%d p%d", &one.From, &one.To, &one.Open, &one.Close, &one.Drive, &one.Rest, &one.Profile)
	return one
}

// town returns an instance with the arcs, the types and the orders (each of them a pickup and a delivery) of three lists with commas.
func town(arcs, types, orders string) api.Instance {
	x := api.Instance{Net: api.Network{Places: []string{"hub", "mill", "dock", "farm", "port"}}}
	for _, s := range list(arcs) {
		x.Net.Arcs = append(x.Net.Arcs, arc(s))
	}
	for i, s := range list(types) {
		one := vehicle(s)
		one.Name, one.Count, one.Cap = fmt.Sprint("van", i), 1, []int{9}
		x.Types = append(x.Types, one)
	}
	for i, s := range list(orders) {
		stops := strings.Fields(s)
		x.Orders = append(x.Orders, api.Order{Name: fmt.Sprint("o", i), Load: []int{1}, Pick: stop(stops[0]), Drop: stop(stops[1]), Penalty: -1, Split: 1, Last: -1, Now: -1})
	}
	return x
}

func list(s string) []string {
	if s == "" {
		return nil
	}
	return strings.Split(s, ", ")
}

// visits reads visits: a is the pickup of the order 0, A its delivery, b the pickup of the order 1, and so on.
func visits(s string) []api.Visit {
	var l []api.Visit
	for _, letter := range s {
		l = append(l, api.Visit{Order: int(unicode.ToLower(letter) - 'a'), Drop: unicode.IsUpper(letter)})
	}
	return l
}

// rests reads rests: -*- are no rest, a rest, and no rest.
func rests(s string) []bool {
	l := make([]bool, 0, len(s))
	for _, letter := range s {
		l = append(l, letter == '*')
	}
	return l
}

func showRests(l []bool) string {
	s := ""
	for _, rest := range l {
		s += map[bool]string{false: "-", true: "*"}[rest]
	}
	return s
}

// show writes a schedule: the departure, the arrival, the begin and the departure of each visit, the end and the miles; a rest is a star behind the departure.
func show(s api.Sheet) string {
	star := map[bool]string{true: "*"}
	text := fmt.Sprintf("%d%s", s.Depart, star[s.Rest])
	for _, t := range s.Times {
		text += fmt.Sprintf(" %d/%d/%d%s", t.Arrive, t.Begin, t.Depart, star[t.Rest])
	}
	return text + fmt.Sprintf(" %d %dm", s.End, s.Miles)
}

// about writes what plays a part.
func about(x api.Instance, r api.Route) string {
	var s strings.Builder
	for _, a := range x.Net.Arcs {
		fmt.Fprintf(&s, "%+v; ", a)
	}
	for _, one := range x.Types {
		fmt.Fprintf(&s, "%d>%d %d-%d %d/%d p%d; ", one.From, one.To, one.Open, one.Close, one.Drive, one.Rest, one.Profile)
	}
	for _, o := range x.Orders {
		fmt.Fprintf(&s, "%v %v; ", o.Pick, o.Drop)
	}
	return fmt.Sprintf("%stype %d start %d rests %s %v", s.String(), r.Type, r.Start, showRests(r.Rests), r.Visits)
}

// anyInts returns ints of all sizes.
func anyInts() []int {
	return []int{math.MinInt, math.MinInt + 1, -1 << 32, -64, -2, -1, 0, 1, 2, 3, 7, 9, 10, 11, 20, 21, 63, 64, 100, 4095, 4096, 4097, 8192, 1 << 20, 1 << 30, 1 << 32, 1<<32 + 1, 1 << 62, math.MaxInt - 1, math.MaxInt}
}

func wantValid(t *testing.T, x api.Instance) {
	t.Helper()
	if faults := instance.Check(x); len(faults) > 0 {
		t.Errorf("%s has %d faults; the first one is %+v", about(x, api.Route{}), len(faults), faults[0])
	}
}

// wantRun expects a schedule of Run, whatever the Rests of the route are.
func wantRun(t *testing.T, x api.Instance, r api.Route, given, want string) {
	t.Helper()
	wantValid(t, x)
	for _, s := range []string{"", "*", "-", given, "*****", strings.Repeat("*", 40)} {
		r.Rests = rests(s)
		if got, err := drive.Run(x, r, rests(given)); err != api.OK || show(got) != want {
			t.Errorf("%s: Run with %s = %s, %d; want %s", about(x, r), given, show(got), err, want)
		}
	}
}

// wantRunError expects an error of Run, whatever the Rests of the route are.
func wantRunError(t *testing.T, x api.Instance, r api.Route, given string, want api.Errno) {
	t.Helper()
	wantValid(t, x)
	for _, s := range []string{"", "*", "-", given, "*****", strings.Repeat("*", 40)} {
		r.Rests = rests(s)
		got, err := drive.Run(x, r, rests(given))
		if err != want || want != api.OK && !isZero(got) {
			t.Errorf("%s: Run with %s = %s, %d; want the error %d", about(x, r), given, show(got), err, want)
		}
	}
}

func isZero(s api.Sheet) bool {
	return len(s.Times) == 0 && reflect.DeepEqual(api.Sheet{Rest: s.Rest, Depart: s.Depart, End: s.End, Miles: s.Miles}, api.Sheet{})
}

// wantBest expects a schedule of Best for fixed rests.
func wantBest(t *testing.T, x api.Instance, r api.Route, fixed, want string) {
	t.Helper()
	wantValid(t, x)
	r.Rests = rests(fixed)
	if got, err := drive.Best(x, r); err != api.OK || show(got) != want {
		t.Errorf("%s: Best = %s, %d; want %s", about(x, r), show(got), err, want)
	}
}

func wantBestError(t *testing.T, x api.Instance, r api.Route, fixed string, want api.Errno) {
	t.Helper()
	wantValid(t, x)
	r.Rests = rests(fixed)
	if got, err := drive.Best(x, r); err != want || !isZero(got) {
		t.Errorf("%s: Best = %s, %d; want the error %d", about(x, r), show(got), err, want)
	}
}

// wantValidError expects an error of Valid and of Since.
func wantValidError(t *testing.T, x api.Instance, r api.Route, s api.Sheet, want api.Errno) {
	t.Helper()
	if got := drive.Valid(x, r, s); got != want {
		t.Errorf("%s: Valid of %s = %d; want %d", about(x, r), show(s), got, want)
	}
	if l, err := drive.Since(x, r, s); err != want || err != api.OK && len(l) > 0 {
		t.Errorf("%s: Since of %s = %v, %d; want the error %d", about(x, r), show(s), l, err, want)
	}
}

// route returns a route of a type.
func route(number, start int, s string) api.Route {
	return api.Route{Type: number, Start: start, Visits: visits(s)}
}
