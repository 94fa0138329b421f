package instance_test

import (
	"iter"
	"math/rand"
	"reflect"
	"strconv"

	"lorry/api"
)

// These functions go through instances by reflection, so that no field can be forgotten.

// cloned returns an instance that shares no memory with the original; its empty lists are nil.
func cloned(x api.Instance) api.Instance {
	y := reflect.New(reflect.TypeOf(x)).Elem()
	cloneInto(y, reflect.ValueOf(x), reflect.Value.Len)
	return y.Interface().(api.Instance)
}

// snapshot returns the same with all that lies behind the lists.
func snapshot(x api.Instance) api.Instance {
	y := reflect.New(reflect.TypeOf(x)).Elem()
	cloneInto(y, reflect.ValueOf(x), reflect.Value.Cap)
	return y.Interface().(api.Instance)
}

func cloneInto(to, from reflect.Value, length func(reflect.Value) int) {
	switch from.Kind() {
	case reflect.Struct:
		for i := range from.NumField() {
			cloneInto(to.Field(i), from.Field(i), length)
		}
	case reflect.Slice:
		if count := length(from); count > 0 {
			from = from.Slice(0, count)
			to.Set(reflect.MakeSlice(from.Type(), count, count))
			for i := range count {
				cloneInto(to.Index(i), from.Index(i), length)
			}
		}
	default:
		to.Set(from)
	}
}

// equal reports whether two instances have the same fields, where nil and empty lists are the same.
func equal(a, b api.Instance) bool {
	return reflect.DeepEqual(cloned(a), cloned(b))
}

// roomy returns a copy of an instance whose lists have two more elements behind them.
func roomy(x api.Instance) api.Instance {
	y := cloned(x)
	makeRoom(reflect.ValueOf(&y).Elem())
	return y
}

func makeRoom(v reflect.Value) {
	switch v.Kind() {
	case reflect.Struct:
		for i := range v.NumField() {
			makeRoom(v.Field(i))
		}
	case reflect.Slice:
		count := v.Len()
		longer := reflect.MakeSlice(v.Type(), count+2, count+2)
		reflect.Copy(longer, v)
		for i := range count + 2 {
			makeRoom(longer.Index(i))
		}
		// A mark, so that an element behind the list that is cleared is noticed.
		if longer.Index(count).Kind() == reflect.Int {
			longer.Index(count).SetInt(77)
		}
		v.Set(longer.Slice(0, count))
	}
}

// overwrite clears the elements of all lists, and what lies behind them.
func overwrite(x api.Instance) { overwriteLists(reflect.ValueOf(x)) }

func overwriteLists(v reflect.Value) {
	switch v.Kind() {
	case reflect.Struct:
		for i := range v.NumField() {
			overwriteLists(v.Field(i))
		}
	case reflect.Slice:
		v = v.Slice(0, v.Cap())
		for i := range v.Len() {
			overwriteLists(v.Index(i))
			v.Index(i).SetZero()
		}
	}
}

// variants traverses the instances that differ from one in a single thing, with its name.
func variants(x api.Instance) iter.Seq2[string, api.Instance] {
	return func(yield func(string, api.Instance) bool) {
		y, more := cloned(x), true
		vary(reflect.ValueOf(&y).Elem(), "", func(what string) { more = more && yield(what, y) })
	}
}

// vary changes a value in different ways, shows each of them, and restores it.
func vary(v reflect.Value, what string, show func(what string)) {
	before := reflect.New(v.Type()).Elem()
	before.Set(v)
	try := func(other any, way string) {
		v.Set(reflect.ValueOf(other).Convert(v.Type()))
		show(what + way)
		v.Set(before)
	}
	switch v.Kind() {
	case reflect.Struct:
		for i := range v.NumField() {
			vary(v.Field(i), what+"."+v.Type().Field(i).Name, show)
		}
	case reflect.Array:
		for i := range v.Len() {
			vary(v.Index(i), what+" "+strconv.Itoa(i), show)
		}
	case reflect.Slice:
		for i := range v.Len() {
			vary(v.Index(i), what+" "+strconv.Itoa(i), show)
		}
		varyList(v, try)
	case reflect.String:
		try(v.String()+"x", " longer")
		try("Z"+v.String(), " other")
	case reflect.Int:
		try(v.Int()+1, " greater")
		try(v.Int()-1, " less")
		try(v.Int()+1<<32, " far greater")
	case reflect.Bool:
		try(!v.Bool(), " opposite")
	default:
		panic("the field " + what + " is not varied")
	}
}

// varyList leaves an element out, puts one in, and exchanges two of them.
func varyList(v reflect.Value, try func(other any, way string)) {
	count := v.Len()
	for i := range count + 1 {
		more := reflect.MakeSlice(v.Type(), count+1, count+1)
		reflect.Copy(more, v.Slice(0, i))
		reflect.Copy(more.Slice(i+1, count+1), v.Slice(i, count))
		try(more.Interface(), " with one more at "+strconv.Itoa(i))
	}
	for i := range count {
		try(reflect.AppendSlice(v.Slice3(0, i, i), v.Slice(i+1, count)).Interface(), " without "+strconv.Itoa(i))
		for k := range i {
			if !reflect.DeepEqual(v.Index(i).Interface(), v.Index(k).Interface()) {
				exchanged := reflect.AppendSlice(v.Slice3(0, 0, 0), v)
				exchanged.Index(i).Set(v.Index(k))
				exchanged.Index(k).Set(v.Index(i))
				try(exchanged.Interface(), " with "+strconv.Itoa(k)+" and "+strconv.Itoa(i)+" exchanged")
			}
		}
	}
}

// change gives one part of a value, which is drawn, another value.
func change(r *rand.Rand, v reflect.Value) {
	for {
		switch {
		case v.Kind() == reflect.Struct:
			v = v.Field(r.Intn(v.NumField()))
		case v.Kind() == reflect.Array, v.Kind() == reflect.Slice && v.Len() > 0 && r.Intn(4) > 0:
			v = v.Index(r.Intn(v.Len()))
		case v.Kind() == reflect.Slice:
			changeLength(r, v)
			return
		case v.Kind() == reflect.String:
			v.SetString(oneOf(r, "p0", "v0", "o0", "o1", "w", "", "1x"))
			return
		case v.Kind() == reflect.Int:
			v.SetInt(int64(oneOf(r, append(anyInts(), int(v.Int())+1, int(v.Int())-1)...)))
			return
		default:
			v.SetBool(!v.Bool())
			return
		}
	}
}

// changeLength takes the last element of a list away, or adds its first one again.
func changeLength(r *rand.Rand, v reflect.Value) {
	switch {
	case v.Len() == 0:
		v.Set(reflect.MakeSlice(v.Type(), 1, 1))
	case r.Intn(2) == 0:
		v.Set(v.Slice(0, v.Len()-1))
	default:
		v.Set(reflect.Append(v, v.Index(0)))
	}
}
