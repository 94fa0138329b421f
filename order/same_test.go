package order_test

import (
	"math/rand"
	"reflect"
	"slices"
	"testing"

	"lorry/api"
	"lorry/order"
)

func wantSame(t *testing.T, a, b api.Order, want bool) {
	t.Helper()
	if order.Same(a, b) != want || order.Same(b, a) != want {
		t.Errorf("Same(%+v, %+v) is %v, and %v the other way round; want %v", a, b, order.Same(a, b), order.Same(b, a), want)
	}
}

// P11.5
func TestSameOfEqualOrders(t *testing.T) {
	wantSame(t, parcel("a", 5), parcel("a", 5), true)
	wantSame(t, parcel("a", 5), parcel("b", 5), false)
	wantSame(t, api.Order{}, api.Order{}, true)
	wantSame(t, allWrong(), allWrong(), true)
	wantSame(t, allWrong(), parcel("a", 5), false)
}

// P11.5: each field matters alone, that of a stop, too.
func TestSameComparesEachField(t *testing.T) {
	compared := 0
	var compare func(path []int, field reflect.Type)
	compare = func(path []int, field reflect.Type) {
		switch field.Kind() {
		case reflect.Struct:
			for i := range field.NumField() {
				compare(append(slices.Clone(path), i), field.Field(i).Type)
			}
			return
		case reflect.String:
			wantFieldCompared(t, path, "", "a", "A", "parcel", "parcel ", "2x")
		case reflect.Int:
			wantFieldCompared(t, path, anyInts()...)
		case reflect.Bool:
			wantFieldCompared(t, path, false, true)
		case reflect.Slice:
			wantFieldCompared(t, path, nil, []int{0}, []int{1}, []int{0, 0}, []int{5, 7}, []int{7, 5}, []int{5, 8}, []int{4, 7}, []int{5, 7, 0})
		default:
			t.Errorf("the field %v is not tested", path)
		}
		compared++
	}
	compare(nil, reflect.TypeFor[api.Order]())
	if compared != 16 {
		t.Errorf("%d fields were compared", compared)
	}
}

// wantFieldCompared gives a field different values, in orders that are otherwise alike.
func wantFieldCompared[T any](t *testing.T, path []int, values ...T) {
	t.Helper()
	for _, base := range []api.Order{{}, between(0, 1), allWrong()} {
		for i, x := range values {
			for k, y := range values {
				a, b := base, base
				reflect.ValueOf(&a).Elem().FieldByIndex(path).Set(reflect.ValueOf(x))
				reflect.ValueOf(&b).Elem().FieldByIndex(path).Set(reflect.ValueOf(y))
				wantSame(t, a, b, i == k)
			}
		}
	}
}

// P11.5: fields that have each other's numbers are not equal.
func TestSameDoesNotMixFields(t *testing.T) {
	for i := range 13 {
		for k := range 13 {
			a, b := parcel("a", 5), parcel("a", 5)
			for f := range 13 {
				*fields(&a)[f], *fields(&b)[f] = f, f
			}
			*fields(&b)[i], *fields(&b)[k] = k, i
			wantSame(t, a, b, i == k)
		}
	}
}

// P11.5
func TestSameComparesLoads(t *testing.T) {
	long := make([]int, 3000)
	for i := range long {
		other := slices.Clone(long)
		other[i]++
		wantSame(t, parcel("a", long...), parcel("a", other...), false)
	}
	wantSame(t, parcel("a", long...), parcel("a", slices.Clone(long)...), true)
	wantSame(t, parcel("a", long...), parcel("a", long[:2999]...), false)
}

// P11.5, R4: nil and empty lists are equivalent.
func TestSameTakesNilForEmpty(t *testing.T) {
	none, empty := between(0, 1), between(0, 1)
	none.Load, empty.Load = nil, []int{}
	wantSame(t, none, empty, true)
	wantSame(t, none, none, true)
	wantSame(t, empty, empty, true)
	wantSame(t, none, between(0, 1), false)
	wantSame(t, empty, between(0, 1), false)
}

// P11.5: orders are the same just if they have the same fields.
func TestSameOfDrawnOrders(t *testing.T) {
	r := rand.New(rand.NewSource(120))
	for range 3000 {
		l := drawn(r, usual())
		other := changed(r, l)
		for i, a := range l {
			b := other[i]
			want := a.Name == b.Name && slices.Compare(a.Load, b.Load) == 0 && a.Off == b.Off
			for f, x := range fields(&a) {
				want = want && *x == *fields(&b)[f]
			}
			wantSame(t, a, b, want)
			wantSame(t, a, cloned(l)[i], true)
		}
	}
}
