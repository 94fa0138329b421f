package spec_test

import (
	"math"
	"math/rand"
	"reflect"

	"lorry/api"
)

// These functions go through instances by reflection, so that no field can be forgotten.

// cloned returns an instance that shares no memory with the original; its empty lists are nil.
func cloned(x api.Instance) api.Instance {
	y := reflect.New(reflect.TypeOf(x)).Elem()
	cloneInto(y, reflect.ValueOf(x), reflect.Value.Len)
	return y.Interface().(api.Instance)
}

// snapshot returns the same with all that lies behind the lists.
func snapshot(x api.Instance) api.Instance {
	y := reflect.New(reflect.TypeOf(x)).Elem()
	cloneInto(y, reflect.ValueOf(x), reflect.Value.Cap)
	return y.Interface().(api.Instance)
}

func cloneInto(to, from reflect.Value, length func(reflect.Value) int) {
	switch from.Kind() {
	case reflect.Struct:
		for i := range from.NumField() {
			cloneInto(to.Field(i), from.Field(i), length)
		}
	case reflect.Slice:
		if count := length(from); count > 0 {
			from = from.Slice(0, count)
			to.Set(reflect.MakeSlice(from.Type(), count, count))
			for i := range count {
				cloneInto(to.Index(i), from.Index(i), length)
			}
		}
	default:
		to.Set(from)
	}
}

// roomy returns a copy of an instance whose lists, also those without elements, have two more elements behind them.
func roomy(x api.Instance) api.Instance {
	y := cloned(x)
	makeRoom(reflect.ValueOf(&y).Elem())
	return y
}

func makeRoom(v reflect.Value) {
	switch v.Kind() {
	case reflect.Struct:
		for i := range v.NumField() {
			makeRoom(v.Field(i))
		}
	case reflect.Slice:
		count := v.Len()
		longer := reflect.MakeSlice(v.Type(), count+2, count+2)
		reflect.Copy(longer, v)
		for i := range count + 2 {
			makeRoom(longer.Index(i))
		}
		// A mark, so that an element behind the list that is cleared is noticed.
		if longer.Index(count).Kind() == reflect.Int {
			longer.Index(count).SetInt(77)
		}
		v.Set(longer.Slice(0, count))
	}
}

// overwrite clears the elements of all lists, and what lies behind them.
func overwrite(x api.Instance) { overwriteLists(reflect.ValueOf(x)) }

func overwriteLists(v reflect.Value) {
	switch v.Kind() {
	case reflect.Struct:
		for i := range v.NumField() {
			overwriteLists(v.Field(i))
		}
	case reflect.Slice:
		v = v.Slice(0, v.Cap())
		for i := range v.Len() {
			overwriteLists(v.Index(i))
			v.Index(i).SetZero()
		}
	}
}

// numbersOf returns all numbers of a value, with those that lie behind its lists.
func numbersOf(v reflect.Value) []reflect.Value {
	var l []reflect.Value
	switch v.Kind() {
	case reflect.Struct:
		for i := range v.NumField() {
			l = append(l, numbersOf(v.Field(i))...)
		}
	case reflect.Slice:
		v = v.Slice(0, v.Cap())
		fallthrough
	case reflect.Array:
		for i := range v.Len() {
			l = append(l, numbersOf(v.Index(i))...)
		}
	case reflect.Int:
		l = append(l, v)
	}
	return l
}

// anyInts returns ints of all sizes.
func anyInts() []int {
	return []int{math.MinInt, math.MinInt + 1, -1 << 32, -1000, -10, -9, -2, -1, 0, 1, 2, 3, 7, 8, 9, 10, 11, 16, 99, 100, 101, 1000, 1001, 4096, 4097, 10001, 100001, 1000001, 1 << 30, 1 << 32, 1<<32 + 1, 1 << 62, math.MaxInt - 1, math.MaxInt}
}

// changed returns a copy in which some things differ, so that it can be wrong.
func changed(r *rand.Rand, x api.Instance) api.Instance {
	y := cloned(x)
	for range 1 + r.Intn(3) {
		change(r, reflect.ValueOf(&y).Elem())
	}
	return y
}

// change gives one part of a value, which is drawn, another value.
func change(r *rand.Rand, v reflect.Value) {
	for {
		switch {
		case v.Kind() == reflect.Struct:
			v = v.Field(r.Intn(v.NumField()))
		case v.Kind() == reflect.Array, v.Kind() == reflect.Slice && v.Len() > 0 && r.Intn(4) > 0:
			v = v.Index(r.Intn(v.Len()))
		case v.Kind() == reflect.Slice:
			changeLength(r, v)
			return
		case v.Kind() == reflect.String:
			v.SetString(oneOf(r, "p0", "v0", "o0", "o1", "w", "1x", "end", "place", ".", "a-b", "0", "sixteen_letters_and_more"))
			return
		case v.Kind() == reflect.Int:
			v.SetInt(int64(oneOf(r, append(anyInts(), int(v.Int())+1, int(v.Int())-1)...)))
			return
		default:
			v.SetBool(!v.Bool())
			return
		}
	}
}

// changeLength takes the last element of a list away, or adds its first one again.
func changeLength(r *rand.Rand, v reflect.Value) {
	switch {
	case v.Len() == 0:
		v.Set(reflect.MakeSlice(v.Type(), 1, 1))
	case r.Intn(2) == 0:
		v.Set(v.Slice(0, v.Len()-1))
	default:
		v.Set(reflect.Append(v, v.Index(0)))
	}
}
