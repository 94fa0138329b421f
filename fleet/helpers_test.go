package fleet_test

import (
	"math"
	"math/rand"
	"slices"
	"strconv"
	"testing"

	"lorry/api"
	"lorry/fleet"
)

// van returns a type that is right for a network with a place.
func van(name string, capacity ...int) api.Type {
	return api.Type{Name: name, Count: 2, Cap: capacity, Skills: 5, Close: 100, Drive: 50}
}

// vans returns so many right types with different names.
func vans(count int) []api.Type {
	l := make([]api.Type, count)
	for i := range l {
		l[i] = van("v"+strconv.Itoa(i), 5, 7)
	}
	return l
}

// with returns a right type in which something is changed.
func with(change func(v *api.Type)) api.Type {
	v := van("van", 5, 7)
	change(&v)
	return v
}

// places returns a network with so many places.
func places(count int) api.Network {
	n := api.Network{Places: make([]string, count)}
	for i := range n.Places {
		n.Places[i] = "p" + strconv.Itoa(i)
	}
	return n
}

// anyInts returns ints of all sizes; some of them are within the limits if they are cut to fewer bits.
func anyInts() []int {
	return []int{math.MinInt, math.MinInt + 5, -1 << 32, -4097, -1, 0, 1, 2, 7, 8, 10, 11, 100, 101, 1000, 1001, 4096, 4097, 100000, 100001, 1<<30 - 1, 1 << 30, 1 << 31, 1 << 32, 1<<32 + 1, math.MaxInt - 5, math.MaxInt}
}

// at returns the faults of the type with an index.
func at(index int, errs ...api.Errno) []api.Fault {
	var l []api.Fault
	for _, err := range errs {
		l = append(l, api.Fault{Err: err, At: strconv.Itoa(index)})
	}
	return l
}

// size is the fault of a list with too few or too many types.
func size() []api.Fault {
	return []api.Fault{{Err: api.ErrSize}}
}

func wantFaults(t *testing.T, n api.Network, l []api.Type, want ...[]api.Fault) {
	t.Helper()
	if got := fleet.Check(n, l); !slices.Equal(got, slices.Concat(want...)) {
		t.Errorf("Check of %d places and %d types, %v = %v; want %v", len(n.Places), len(l), l, got, slices.Concat(want...))
	}
}

// wantType checks a type alone, and between two others, in a network with three places.
func wantType(t *testing.T, v api.Type, errs ...api.Errno) {
	t.Helper()
	wantFaults(t, places(3), []api.Type{v}, at(0, errs...))
	first, last := van("first", v.Cap...), van("last", v.Cap...)
	if !slices.Contains(errs, api.ErrLoad) {
		wantFaults(t, places(3), []api.Type{first, v, last}, at(1, errs...))
	}
}

// cloned returns types that share no memory with the originals.
func cloned(l []api.Type) []api.Type {
	l = slices.Clone(l)
	for i := range l {
		l[i].Cap = slices.Clone(l[i].Cap)
	}
	return l
}

// drawn returns right types for a network with so many places.
func drawn(r *rand.Rand, places int) []api.Type {
	l := vans(1 + r.Intn(6))
	dims := 1 + r.Intn(3)
	for i := range l {
		v := &l[i]
		v.Cap = make([]int, dims)
		for d := range v.Cap {
			v.Cap[d] = r.Intn(1001)
		}
		v.Count, v.From, v.To = r.Intn(11), r.Intn(places), r.Intn(places)
		v.Skills, v.Profile = r.Intn(1<<30), r.Intn(8)
		v.Close = r.Intn(4097)
		v.Open = r.Intn(v.Close + 1)
		v.Drive, v.Rest = 1+r.Intn(4096), r.Intn(4097)
		v.Fixed, v.PerMile, v.PerTick = r.Intn(100001), r.Intn(101), r.Intn(101)
	}
	return l
}

// changed replaces some names and numbers of types by others, which can be wrong.
func changed(r *rand.Rand, l []api.Type) []api.Type {
	l = cloned(l)
	numbers := anyInts()
	for range 1 + r.Intn(5) {
		v := &l[r.Intn(len(l))]
		number := numbers[r.Intn(len(numbers))]
		switch field := r.Intn(16); field {
		case 12:
			v.Name = []string{"v0", "v1", "v2", "w", "", "1x"}[r.Intn(6)]
		case 13:
			v.Cap = append(v.Cap, number)
		case 14:
			v.Cap = v.Cap[:r.Intn(len(v.Cap)+1)]
		case 15:
			if len(v.Cap) > 0 {
				v.Cap[r.Intn(len(v.Cap))] = number
			}
		default:
			*fields(v)[field] = number
		}
	}
	return l
}

// fields returns the numbers of a type.
func fields(v *api.Type) []*int {
	return []*int{&v.Count, &v.From, &v.To, &v.Skills, &v.Profile, &v.Open, &v.Close, &v.Drive, &v.Rest, &v.Fixed, &v.PerMile, &v.PerTick}
}
