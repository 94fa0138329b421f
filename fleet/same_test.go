package fleet_test

import (
	"math/rand"
	"reflect"
	"slices"
	"testing"

	"lorry/api"
	"lorry/fleet"
)

func wantSame(t *testing.T, a, b api.Type, want bool) {
	t.Helper()
	if fleet.Same(a, b) != want || fleet.Same(b, a) != want {
		t.Errorf("Same(%v, %v) is %v, and %v the other way round; want %v", a, b, fleet.Same(a, b), fleet.Same(b, a), want)
	}
}

// P10.1
func TestSameHasItsExamples(t *testing.T) {
	wantSame(t, van("van", 5), van("van", 5), true)
	wantSame(t, van("van", 5), with(func(v *api.Type) { v.Cap, v.Rest = []int{5}, 1 }), false)
	wantSame(t, api.Type{}, api.Type{}, true)
	wantSame(t, allWrong(), allWrong(), true)
	wantSame(t, allWrong(), van("van", 5), false)
}

// P10.1: each field of a type matters, alone.
func TestSameComparesEachField(t *testing.T) {
	fields := reflect.TypeFor[api.Type]()
	for i := range fields.NumField() {
		f := fields.Field(i)
		switch f.Type.Kind() {
		case reflect.String:
			wantFieldCompared(t, i, "", "a", "A", "van", "van ", "2x")
		case reflect.Int:
			wantFieldCompared(t, i, anyInts()...)
		case reflect.Slice:
			wantFieldCompared(t, i, nil, []int{0}, []int{0, 0}, []int{5, 7}, []int{7, 5}, []int{5, 7, 0})
		default:
			t.Errorf("%s is not tested", f.Name)
		}
	}
}

// wantFieldCompared gives a field different values, in types that are otherwise alike.
func wantFieldCompared[T any](t *testing.T, field int, values ...T) {
	t.Helper()
	for _, base := range []api.Type{{}, van("van", 5, 7), allWrong()} {
		for i, x := range values {
			for k, y := range values {
				a, b := base, base
				reflect.ValueOf(&a).Elem().Field(field).Set(reflect.ValueOf(x))
				reflect.ValueOf(&b).Elem().Field(field).Set(reflect.ValueOf(y))
				wantSame(t, a, b, i == k)
			}
		}
	}
}

// P10.1: fields that have each other's numbers are not equal.
func TestSameDoesNotMixFields(t *testing.T) {
	for i := range 12 {
		for k := range 12 {
			a, b := van("van", 5), van("van", 5)
			for f := range 12 {
				*fields(&a)[f], *fields(&b)[f] = f, f
			}
			*fields(&b)[i], *fields(&b)[k] = k, i
			wantSame(t, a, b, i == k)
		}
	}
}

// P10.1
func TestSameComparesCapacities(t *testing.T) {
	capacities := [][]int{nil, {0}, {1}, {5}, {0, 0}, {5, 0}, {0, 5}, {5, 7}, {7, 5}, {5, 7, 9}, {5, 7, 8}, {5, 8, 9}, {4, 7, 9}, {5, 7, 9, 0}, {-1, 1001}, {-1, 1000}}
	for i, x := range capacities {
		for k, y := range capacities {
			wantSame(t, van("van", x...), van("van", slices.Clone(y)...), i == k)
		}
	}
	long := make([]int, 3000)
	for i := range long {
		other := slices.Clone(long)
		other[i]++
		wantSame(t, van("van", long...), van("van", other...), false)
	}
	wantSame(t, van("van", long...), van("van", slices.Clone(long)...), true)
	wantSame(t, van("van", long...), van("van", long[:2999]...), false)
}

// P10.1, R4: nil and empty lists are equivalent.
func TestSameTakesNilForEmpty(t *testing.T) {
	none, empty := van("van"), with(func(v *api.Type) { v.Cap = []int{} })
	none.Cap = nil
	wantSame(t, none, empty, true)
	wantSame(t, none, none, true)
	wantSame(t, empty, empty, true)
	wantSame(t, none, van("van", 0), false)
	wantSame(t, empty, van("van", 0), false)
}

// P10.1: types are the same just if they have the same fields.
func TestSameOfDrawnTypes(t *testing.T) {
	r := rand.New(rand.NewSource(108))
	for range 3000 {
		l := drawn(r, 4)
		other := changed(r, l)
		for i, a := range l {
			b := other[i]
			want := a.Name == b.Name && slices.Compare(a.Cap, b.Cap) == 0
			for f, x := range fields(&a) {
				want = want && *x == *fields(&b)[f]
			}
			wantSame(t, a, b, want)
			wantSame(t, a, cloned(l)[i], true)
		}
	}
}
