package split_test

import (
	"math/rand"
	"reflect"

	"lorry/api"
)

// These functions go through values by reflection, so that no field can be forgotten.

// cloned returns a copy that shares no memory with the original; its empty lists are nil.
func cloned[T any](x T) T { return copied(x, reflect.Value.Len) }

// snapshot returns the same with all that lies behind the lists.
func snapshot[T any](x T) T { return copied(x, reflect.Value.Cap) }

func copied[T any](x T, length func(reflect.Value) int) T {
	var y T
	copyInto(reflect.ValueOf(&y).Elem(), reflect.ValueOf(x), length)
	return y
}

func copyInto(to, from reflect.Value, length func(reflect.Value) int) {
	switch from.Kind() {
	case reflect.Struct:
		for i := range from.NumField() {
			copyInto(to.Field(i), from.Field(i), length)
		}
	case reflect.Slice:
		if count := length(from); count > 0 {
			from = from.Slice(0, count)
			to.Set(reflect.MakeSlice(from.Type(), count, count))
			for i := range count {
				copyInto(to.Index(i), from.Index(i), length)
			}
		}
	default:
		to.Set(from)
	}
}

// equal reports whether two values have the same fields, where nil and empty lists are the same.
func equal[T any](a, b T) bool { return reflect.DeepEqual(cloned(a), cloned(b)) }

// roomy returns a copy whose lists, also those without elements, have two more elements behind them.
func roomy[T any](x T) T {
	y := cloned(x)
	makeRoom(reflect.ValueOf(&y).Elem())
	return y
}

func makeRoom(v reflect.Value) {
	switch v.Kind() {
	case reflect.Struct:
		for i := range v.NumField() {
			makeRoom(v.Field(i))
		}
	case reflect.Slice:
		count := v.Len()
		longer := reflect.MakeSlice(v.Type(), count+2, count+2)
		reflect.Copy(longer, v)
		for i := range count + 2 {
			makeRoom(longer.Index(i))
		}
		// A mark, so that an element behind the list that is cleared is noticed.
		if longer.Index(count).Kind() == reflect.Int {
			longer.Index(count).SetInt(77)
		}
		v.Set(longer.Slice(0, count))
	}
}

// overwrite clears the elements of all lists, and what lies behind them.
func overwrite(x any) { overwriteLists(reflect.ValueOf(x)) }

func overwriteLists(v reflect.Value) {
	switch v.Kind() {
	case reflect.Struct:
		for i := range v.NumField() {
			overwriteLists(v.Field(i))
		}
	case reflect.Slice:
		v = v.Slice(0, v.Cap())
		for i := range v.Len() {
			overwriteLists(v.Index(i))
			v.Index(i).SetZero()
		}
	}
}

// numbersOf returns all numbers of a value, with those that lie behind its lists.
func numbersOf(v reflect.Value) []reflect.Value {
	var l []reflect.Value
	switch v.Kind() {
	case reflect.Struct:
		for i := range v.NumField() {
			l = append(l, numbersOf(v.Field(i))...)
		}
	case reflect.Slice:
		v = v.Slice(0, v.Cap())
		fallthrough
	case reflect.Array:
		for i := range v.Len() {
			l = append(l, numbersOf(v.Index(i))...)
		}
	case reflect.Int:
		l = append(l, v)
	}
	return l
}

// changed returns a copy in which some things differ, so that it can be wrong.
func changed[T any](r *rand.Rand, x T) T {
	y := cloned(x)
	for range 1 + r.Intn(3) {
		change(r, reflect.ValueOf(&y).Elem())
	}
	return y
}

// change gives one part of a value, which is drawn, another value.
func change(r *rand.Rand, v reflect.Value) {
	for {
		switch {
		case v.Kind() == reflect.Struct:
			v = v.Field(r.Intn(v.NumField()))
		case v.Kind() == reflect.Array, v.Kind() == reflect.Slice && v.Len() > 0 && r.Intn(4) > 0:
			v = v.Index(r.Intn(v.Len()))
		case v.Kind() == reflect.Slice:
			changeLength(r, v)
			return
		case v.Kind() == reflect.String:
			v.SetString(oneOf(r, "o0", "o1", "o1_1", "", "1x", "sixteen_letters_and_more"))
			return
		case v.Kind() == reflect.Int:
			v.SetInt(int64(oneOf(r, append(anyInts(), int(v.Int())+1, int(v.Int())-1)...)))
			return
		default:
			v.SetBool(!v.Bool())
			return
		}
	}
}

// changeLength takes the last element of a list away, or adds its first one again.
func changeLength(r *rand.Rand, v reflect.Value) {
	switch {
	case v.Len() == 0:
		v.Set(reflect.MakeSlice(v.Type(), 1, 1))
	case r.Intn(2) == 0:
		v.Set(v.Slice(0, v.Len()-1))
	default:
		v.Set(reflect.Append(v, v.Index(0)))
	}
}

// strange returns instances that are not valid.
func strange(r *rand.Rand) []api.Instance {
	l := []api.Instance{
		{},
		{Orders: make([]api.Order, 5)},
		{Types: make([]api.Type, 9), Orders: make([]api.Order, 70)},
		{Net: api.Network{Places: make([]string, 30), Arcs: make([]api.Arc, 30)}, Apart: make(pairs, 30), Before: make(pairs, 30)},
	}
	for _, number := range anyInts() {
		x := town(1, 2, 3)
		for _, v := range numbersOf(reflect.ValueOf(&x).Elem()) {
			v.SetInt(int64(number))
		}
		y := town(2, 1, number)
		y.Apart, y.Before = pairs{{number, number}, {0, number}}, pairs{{1, number}, {number, 0}}
		l = append(l, x, y)
	}
	for range 1000 {
		l = append(l, changed(r, drawn(r)))
	}
	return l
}
