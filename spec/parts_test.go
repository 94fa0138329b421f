package spec_test

import (
	"math"
	"math/rand"
	"slices"
	"strings"
	"testing"

	"lorry/api"
	"lorry/spec"
)

func wantStop(t *testing.T, s api.Stop, want string) {
	t.Helper()
	if got := spec.Stop(s); got != want {
		t.Errorf("Stop(%+v) = %q; want %q", s, got, want)
	}
}

func wantTravel(t *testing.T, l []api.Point, want string) {
	t.Helper()
	if got := spec.Travel(l); got != want {
		t.Errorf("Travel(%v) = %q; want %q", l, got, want)
	}
}

// P14.3
func TestStopHasItsExample(t *testing.T) {
	wantStop(t, api.Stop{Place: 2, Open: 10, Close: 20, Service: 5}, "2:10:20:5")
}

// P14.3: the stop that is written as a dot, and all that differ from it in a single field.
func TestStopThatIsNone(t *testing.T) {
	wantStop(t, gone(), ".")
	wantStop(t, api.Stop{}, "0:0:0:0")
	for _, n := range anyInts() {
		for field := range 4 {
			l := []int{-1, 0, 0, 0}
			l[field] = n
			s := api.Stop{Place: l[0], Open: l[1], Close: l[2], Service: l[3]}
			if s != gone() {
				wantStop(t, s, strings.ReplaceAll(modelList(l), ",", ":"))
			}
		}
	}
	wantStop(t, api.Stop{Place: -1, Open: 1}, "-1:1:0:0")
	wantStop(t, api.Stop{Place: -1, Close: 1}, "-1:0:1:0")
	wantStop(t, api.Stop{Place: -1, Service: 1}, "-1:0:0:1")
	wantStop(t, api.Stop{Place: -2}, "-2:0:0:0")
}

// P14.3: stops that no order can have.
func TestStopWritesAnyStop(t *testing.T) {
	wantStop(t, api.Stop{Place: math.MinInt, Open: math.MaxInt, Close: math.MinInt, Service: math.MaxInt}, "-9223372036854775808:9223372036854775807:-9223372036854775808:9223372036854775807")
	wantStop(t, api.Stop{Place: -3, Open: 20, Close: 10, Service: -5}, "-3:20:10:-5")
	r := rand.New(rand.NewSource(1403))
	for range 5000 {
		s := api.Stop{Place: oneOf(r, anyInts()...), Open: oneOf(r, anyInts()...), Close: oneOf(r, anyInts()...), Service: oneOf(r, anyInts()...)}
		wantStop(t, s, modelStop(s))
	}
}

// P14.3
func TestTravelHasItsExample(t *testing.T) {
	wantTravel(t, []api.Point{{T: 0, A: 5}, {T: 20, A: 35}}, "0:5,20:35")
}

// P14.3
func TestTravelWithoutPoints(t *testing.T) {
	wantTravel(t, nil, ".")
	wantTravel(t, []api.Point{}, ".")
	wantTravel(t, []api.Point{{T: 1, A: 2}}[:0], ".")
	wantTravel(t, []api.Point{{}}, "0:0")
}

// P14.3: points that are no travel function.
func TestTravelWritesAnyPoints(t *testing.T) {
	wantTravel(t, []api.Point{{T: 9, A: -8}, {T: 9, A: 7}, {T: -1, A: 0}}, "9:-8,9:7,-1:0")
	wantTravel(t, []api.Point{{T: math.MinInt, A: math.MaxInt}}, "-9223372036854775808:9223372036854775807")
	r := rand.New(rand.NewSource(1404))
	for range 5000 {
		l := make([]api.Point, r.Intn(40))
		for i := range l {
			l[i] = api.Point{T: oneOf(r, anyInts()...), A: oneOf(r, anyInts()...)}
		}
		before := slices.Clone(l)
		wantTravel(t, l, modelPoints(l))
		if !slices.Equal(l, before) {
			t.Errorf("%v became %v", before, l)
		}
	}
}

// P14.3, Bound: long lists, in a time that is proportional to their length.
func TestTravelWritesLongLists(t *testing.T) {
	const long = 1 << 20
	wantTravel(t, slices.Repeat([]api.Point{{T: 1, A: 23}}, long), strings.TrimSuffix(strings.Repeat("1:23,", long), ","))
}
