package price_test

import (
	"reflect"
	"slices"
	"testing"

	"lorry/api"
	"lorry/internal/sample"
)

// variants returns for each field of a value, but for some, the value in which this field is another one.
func variants[T any](t *testing.T, value T, but ...string) []T {
	var l []T
	fields := reflect.TypeFor[T]()
	for i := range fields.NumField() {
		f := fields.Field(i)
		if slices.Contains(but, f.Name) {
			continue
		}
		for _, other := range others(f.Type) {
			changed := value
			reflect.ValueOf(&changed).Elem().Field(i).Set(other)
			l = append(l, changed)
		}
	}
	if fields.NumField() == len(but) || len(l) == 0 {
		t.Errorf("no field of %s is changed", fields.Name())
	}
	return l
}

// others returns some values of a type: no number, and a list, a text or a struct with and without contents.
func others(kind reflect.Type) []reflect.Value {
	var l []reflect.Value
	switch kind.Kind() {
	case reflect.Int:
		for _, n := range sample.Ints() {
			l = append(l, reflect.ValueOf(n))
		}
	case reflect.Bool:
		l = append(l, reflect.ValueOf(false), reflect.ValueOf(true))
	case reflect.String:
		l = append(l, reflect.ValueOf(""), reflect.ValueOf("x y"))
	case reflect.Slice:
		l = append(l, reflect.Zero(kind), reflect.MakeSlice(kind, 3, 3))
	case reflect.Struct:
		one := reflect.New(kind).Elem()
		for i := range kind.NumField() {
			values := others(kind.Field(i).Type)
			one.Field(i).Set(values[len(values)-1])
		}
		l = append(l, reflect.Zero(kind), one)
	}
	return l
}

// P20.1: only the Types and the Orders of the instance have a meaning, and of these, of the route and of the schedule only what the section Definitions names.
func TestRouteLooksAtNothingElse(t *testing.T) {
	x := town([2]int{0, 1}, [2]int{2, 2})
	x.Types[1] = rated(7, 5, 3, 20).Types[1]
	r, s := sample.Route(1, 0, "aAbB"), api.Sheet{End: 600, Miles: 9}
	want := score(7+45+3*580, 2, 1, 81)
	wantValid(t, x)
	wantRoute(t, x, r, s, want)
	for _, y := range variants(t, x, "Types", "Orders") {
		wantRoute(t, y, r, s, want)
	}
	for _, one := range variants(t, r, "Type", "Visits") {
		wantRoute(t, x, one, s, want)
	}
	for _, sheet := range variants(t, s, "End", "Miles") {
		wantRoute(t, x, r, sheet, want)
	}
	y := x
	for _, v := range variants(t, x.Types[1], "Open", "Fixed", "PerMile", "PerTick") {
		y.Types = []api.Type{x.Types[0], v, x.Types[2]}
		wantRoute(t, y, r, s, want)
	}
	y.Types = x.Types
	for _, o := range variants(t, x.Orders[0], "Now", "Last") {
		y.Orders = []api.Order{o, x.Orders[1]}
		wantRoute(t, y, r, s, want)
	}
	for _, v := range variants(t, r.Visits[0], "Order") {
		wantRoute(t, x, api.Route{Type: 1, Visits: []api.Visit{v, r.Visits[1], r.Visits[2]}}, s, want)
	}
}

// P20.2: only the Orders of the instance have a meaning, and of these only what the section names.
func TestUnservedLooksAtNothingElse(t *testing.T) {
	x := town([2]int{0, 1}, [2]int{2, 2})
	x.Orders[0].Penalty, x.Orders[1].Penalty = 50, 60
	wantValid(t, x)
	for _, y := range variants(t, x, "Orders") {
		wantUnserved(t, y, 0, score(50, 1, 0, 0), api.OK)
		wantUnserved(t, y, 1, score(60, 1, 0, 0), api.OK)
		wantUnserved(t, y, 2, api.Score{}, api.ErrArg)
	}
	y := x
	for _, o := range variants(t, x.Orders[0], "Now", "Penalty", "Off") {
		y.Orders = []api.Order{o, x.Orders[1]}
		wantUnserved(t, y, 0, score(50, 1, 0, 0), api.OK)
		wantUnserved(t, y, 1, score(60, 1, 0, 0), api.OK)
	}
}
