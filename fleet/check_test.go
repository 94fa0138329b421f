package fleet_test

import (
	"math"
	"math/rand"
	"slices"
	"strconv"
	"strings"
	"testing"

	"lorry/api"
	"lorry/fleet"
	"lorry/text"
)

// P10.1
func TestCheckHasItsExamples(t *testing.T) {
	one := api.Type{Name: "van", Cap: []int{5}, Close: 100, Drive: 50}
	wantFaults(t, places(1), []api.Type{one})
	one.From = 1
	wantFaults(t, places(1), []api.Type{one}, at(0, api.ErrPlace))
	wantFaults(t, places(2), nil, size())
	wantFaults(t, places(2), []api.Type{}, size())
	wantFaults(t, places(2), []api.Type{van("van", 5), van("van", 5, 1)}, at(1, api.ErrTwice, api.ErrLoad))
}

// P10.1
func TestCheckAcceptsTypes(t *testing.T) {
	wantFaults(t, places(1), vans(6))
	r := rand.New(rand.NewSource(101))
	for range 300 {
		count := 1 + r.Intn(24)
		wantFaults(t, places(count), drawn(r, count))
	}
}

// P10.1: the limit of types; those behind it are checked, too, also at numbers of several digits.
func TestCheckCountsTheTypes(t *testing.T) {
	wantFaults(t, api.Network{}, nil, size())
	for count := 1; count < 30; count++ {
		l, over := vans(count), []api.Fault(nil)
		if count > 6 {
			over = size()
		}
		wantFaults(t, places(1), l, over)
		for i := range l {
			one := cloned(l)
			one[i].Drive = 0
			wantFaults(t, places(1), one, over, at(i, api.ErrRest))
		}
	}
	wantFaults(t, places(1), append(vans(130), van("v129", 5, 8), van("v0", 5)), size(), at(130, api.ErrTwice), at(131, api.ErrTwice, api.ErrLoad))
}

// P10.1
func TestCheckLooksAtNames(t *testing.T) {
	for _, name := range []string{"a", "Z", "_", "hub_2", "Sixteen_letters_"} {
		wantType(t, van(name, 5))
	}
	for _, wrong := range []string{"", " ", "a b", "2x", "7", "a-b", "\x00", "ä", "van\n", "seventeen_letters", strings.Repeat("x", 70000)} {
		wantType(t, van(wrong, 5), api.ErrName)
		wantFaults(t, places(1), []api.Type{van(wrong, 5), van("van", 5), van(wrong, 5), van(wrong, 5)}, at(0, api.ErrName), at(2, api.ErrName, api.ErrTwice), at(3, api.ErrName, api.ErrTwice))
	}
}

// P10.1
func TestCheckComparesNames(t *testing.T) {
	var l []api.Type
	for _, name := range []string{"a", "b", "A", "a", "a_", "a"} {
		l = append(l, van(name, 5))
	}
	wantFaults(t, places(1), l, at(3, api.ErrTwice), at(5, api.ErrTwice))
	for i := range 6 {
		for k := range i {
			l := vans(6)
			l[i].Name = l[k].Name
			wantFaults(t, places(1), l, at(i, api.ErrTwice))
			// It does not matter whether the earlier type is right.
			l[k].Count, l[k].Close = -1, -1
			wantFaults(t, places(1), l, at(k, api.ErrCount, api.ErrClose), at(i, api.ErrTwice))
		}
	}
}

// limit is a field of a type, with the least and the greatest number that it can have, and the error of others.
type limit struct {
	name        string
	of          func(v *api.Type) *int
	least, most int
	err         api.Errno
}

// limits returns the limits in a network with three places; the shift of a type ends at 4096.
func limits() []limit {
	return []limit{
		{"Count", func(v *api.Type) *int { return &v.Count }, 0, 10, api.ErrCount},
		{"From", func(v *api.Type) *int { return &v.From }, 0, 2, api.ErrPlace},
		{"To", func(v *api.Type) *int { return &v.To }, 0, 2, api.ErrPlace},
		{"Cap[0]", func(v *api.Type) *int { return &v.Cap[0] }, 0, 1000, api.ErrLoad},
		{"Cap[1]", func(v *api.Type) *int { return &v.Cap[1] }, 0, 1000, api.ErrLoad},
		{"Cap[2]", func(v *api.Type) *int { return &v.Cap[2] }, 0, 1000, api.ErrLoad},
		{"Skills", func(v *api.Type) *int { return &v.Skills }, 0, 1073741823, api.ErrSkill},
		{"Open", func(v *api.Type) *int { return &v.Open }, 0, 4096, api.ErrClose},
		{"Close", func(v *api.Type) *int { return &v.Close }, 0, 4096, api.ErrClose},
		{"Drive", func(v *api.Type) *int { return &v.Drive }, 1, 4096, api.ErrRest},
		{"Rest", func(v *api.Type) *int { return &v.Rest }, 0, 4096, api.ErrRest},
		{"Profile", func(v *api.Type) *int { return &v.Profile }, 0, 7, api.ErrArg},
		{"Fixed", func(v *api.Type) *int { return &v.Fixed }, 0, 100000, api.ErrArg},
		{"PerMile", func(v *api.Type) *int { return &v.PerMile }, 0, 100, api.ErrArg},
		{"PerTick", func(v *api.Type) *int { return &v.PerTick }, 0, 100, api.ErrArg},
	}
}

// P10.1
func TestEachNumberHasItsLimits(t *testing.T) {
	for _, f := range limits() {
		check := func(x int, errs ...api.Errno) {
			v := van("van", 5, 7, 9)
			v.Close = 4096
			*f.of(&v) = x
			wantFaults(t, places(3), []api.Type{v}, at(0, errs...))
			wantFaults(t, places(3), []api.Type{van("first", 0, 0, 0), v, van("last", 0, 0, 0)}, at(1, errs...))
			if t.Failed() {
				t.Fatalf("%s of %d", f.name, x)
			}
		}
		for _, x := range []int{f.least, f.least + 1, (f.least + f.most) / 2, f.most - 1, f.most} {
			check(x)
		}
		for _, x := range []int{f.least - 1, f.least - 2, f.most + 1, f.most + 2, -f.most - 1, -1 << 32, 1 << 32, 1<<32 + f.most, math.MinInt, math.MinInt + f.most, math.MaxInt} {
			check(x, f.err)
		}
	}
}

// P10.1: the places are those of the network, however many there are.
func TestCheckKnowsThePlaces(t *testing.T) {
	for count := range 40 {
		for _, x := range append(anyInts(), count-1, count, count+1) {
			var errs []api.Errno
			if !slices.Contains(places(count).Places, "p"+strconv.Itoa(x)) {
				errs = append(errs, api.ErrPlace)
			}
			wantFaults(t, places(count), []api.Type{with(func(v *api.Type) { v.From, v.To = x, max(count-1, 0) })}, at(0, errs...))
			wantFaults(t, places(count), []api.Type{with(func(v *api.Type) { v.From, v.To = 0, x })}, at(0, errs...))
			wantFaults(t, places(count), []api.Type{with(func(v *api.Type) { v.From, v.To = x, x })}, at(0, errs...))
		}
	}
}

// P10.1: n is used only for the number of its places.
func TestCheckCountsOnlyThePlaces(t *testing.T) {
	r := rand.New(rand.NewSource(102))
	for range 300 {
		count := r.Intn(5)
		n := api.Network{Places: make([]string, count), Arcs: []api.Arc{{From: -1, To: 9, Profile: 8}, {}, {}}}
		l := changed(r, drawn(r, 4))
		wantFaults(t, n, l, fleet.Check(places(count), l))
	}
}

// P10.1: the number of dimensions.
func TestCheckCountsTheDimensions(t *testing.T) {
	for first := range 7 {
		for second := range 7 {
			var want []api.Fault
			if first < 1 || first > 3 {
				want = at(0, api.ErrLoad)
			}
			if second < 1 || second > 3 || second != first {
				want = append(want, at(1, api.ErrLoad)...)
			}
			l := []api.Type{van("a", make([]int, first)...), van("b", make([]int, second)...)}
			wantFaults(t, places(1), l, want)
		}
		wantFaults(t, places(1), []api.Type{van("a", 5), van("b", make([]int, first)...), van("c", 5)}, at(1, dimsErrors(first, 1)...))
		wantFaults(t, places(1), []api.Type{van("a", 5, 5, 5), van("b", make([]int, first)...), van("c", 5, 5, 5)}, at(1, dimsErrors(first, 3)...))
	}
	empty := with(func(v *api.Type) { v.Cap = []int{} })
	wantFaults(t, places(1), []api.Type{empty, van("none"), van("b", 5)}, at(0, api.ErrLoad), at(1, api.ErrLoad), at(2, api.ErrLoad))
}

func dimsErrors(dims, want int) []api.Errno {
	if dims == want {
		return nil
	}
	return []api.Errno{api.ErrLoad}
}

// P10.1: each element is looked at, and the rule has one fault for a type.
func TestCheckLooksAtEachElement(t *testing.T) {
	wrong := []int{-1, 1001, math.MinInt, math.MaxInt}
	for dims := 1; dims <= 3; dims++ {
		right := make([]int, dims)
		for set := 1; set < 1<<dims; set++ {
			l := []api.Type{van("a", right...), van("b", slices.Repeat([]int{1000}, dims)...), van("c", right...)}
			for d := range dims {
				if set>>d&1 == 1 {
					l[1].Cap[d] = wrong[(set+d)%len(wrong)]
				}
			}
			wantFaults(t, places(1), l, at(1, api.ErrLoad))
			wantFaults(t, places(1), l[1:], at(0, api.ErrLoad))
		}
	}
	// A type whose elements are wrong has its dimensions all the same.
	wantFaults(t, places(1), []api.Type{van("a", -1, 1001), van("b", 0, 1000), van("c", 0)}, at(0, api.ErrLoad), at(2, api.ErrLoad))
}

// P10.1
func TestCheckLooksAtTheShift(t *testing.T) {
	for _, open := range anyInts() {
		for _, end := range append(anyInts(), open-1, open, open+1) {
			v := with(func(v *api.Type) { v.Open, v.Close = open, end })
			if open >= 0 && end >= open && end <= 4096 {
				wantType(t, v)
			} else {
				wantType(t, v, api.ErrClose)
			}
		}
	}
}

// P10.1: Drive and Rest are one rule.
func TestCheckLooksAtTheRests(t *testing.T) {
	for _, drive := range []int{math.MinInt, -1, 0, 1, 4096, 4097, math.MaxInt} {
		for _, rest := range []int{math.MinInt, -1, 0, 1, 4096, 4097, math.MaxInt} {
			v := with(func(v *api.Type) { v.Drive, v.Rest = drive, rest })
			if (drive == 1 || drive == 4096) && (rest == 0 || rest == 1 || rest == 4096) {
				wantType(t, v)
			} else {
				wantType(t, v, api.ErrRest)
			}
		}
	}
}

// P10.1: the profile and the costs are one rule.
func TestCheckHasOneFaultForTheCosts(t *testing.T) {
	for set := range 16 {
		v := van("van", 5)
		for i, x := range []*int{&v.Profile, &v.Fixed, &v.PerMile, &v.PerTick} {
			if set>>i&1 == 1 {
				*x = []int{-1, 100001, 101, -1}[i]
			}
		}
		if set == 0 {
			wantType(t, v)
		} else {
			wantType(t, v, api.ErrArg)
		}
	}
}

// allWrong returns a type with all faults that one alone can have.
func allWrong() api.Type {
	return api.Type{Name: "2x", Count: 11, From: -1, To: 3, Cap: []int{-1, -1, -1, 1001}, Skills: -1, Profile: 8, Open: 5, Close: 4, Drive: 4097, Rest: -1, Fixed: -1, PerMile: 101, PerTick: 101}
}

// P10.1, R3
func TestCheckReturnsAllFaultsInOrder(t *testing.T) {
	alone := []api.Errno{api.ErrName, api.ErrCount, api.ErrPlace, api.ErrLoad, api.ErrSkill, api.ErrClose, api.ErrRest, api.ErrArg}
	again := slices.Insert(slices.Clone(alone), 1, api.ErrTwice)
	wantType(t, allWrong(), alone...)
	l := vans(8)
	l[1], l[3], l[7] = allWrong(), allWrong(), allWrong()
	l[2].Name, l[2].Rest = "v0", 4097
	l[4].PerTick, l[4].Skills = -1, 1<<30
	l[5].Cap, l[5].To, l[5].Count = nil, 9, -1
	l[6].Open, l[6].Profile = -1, -1
	wantFaults(t, places(3), l, size(), at(1, alone...), at(2, api.ErrTwice, api.ErrRest), at(3, again...), at(4, api.ErrSkill, api.ErrArg), at(5, api.ErrCount, api.ErrPlace, api.ErrLoad), at(6, api.ErrClose, api.ErrArg), at(7, again...))
}

// isFrom reports whether a number is not less than least, and not greater than most.
func isFrom(least, x, most int) bool {
	return least <= most && x == min(max(x, least), most)
}

// expectedOfType follows the rules of the chapter for one type.
func expectedOfType(n api.Network, l []api.Type, i int) []api.Errno {
	var errs []api.Errno
	require := func(right bool, err api.Errno) {
		if !right {
			errs = append(errs, err)
		}
	}
	v, last := l[i], len(n.Places)-1
	require(text.Name(v.Name), api.ErrName)
	require(slices.IndexFunc(l, func(other api.Type) bool { return other.Name == v.Name }) == i, api.ErrTwice)
	require(isFrom(0, v.Count, 10), api.ErrCount)
	require(isFrom(0, v.From, last) && isFrom(0, v.To, last), api.ErrPlace)
	wrong := slices.ContainsFunc(v.Cap, func(x int) bool { return !isFrom(0, x, 1000) })
	require(isFrom(1, len(v.Cap), 3) && len(v.Cap) == len(l[0].Cap) && !wrong, api.ErrLoad)
	require(isFrom(0, v.Skills, 1<<30-1), api.ErrSkill)
	require(isFrom(0, v.Open, v.Close) && v.Close <= 4096, api.ErrClose)
	require(isFrom(1, v.Drive, 4096) && isFrom(0, v.Rest, 4096), api.ErrRest)
	require(isFrom(0, v.Profile, 7) && isFrom(0, v.Fixed, 100000) && isFrom(0, v.PerMile, 100) && isFrom(0, v.PerTick, 100), api.ErrArg)
	return errs
}

// P10.1: for any types.
func TestCheckFollowsItsRules(t *testing.T) {
	r := rand.New(rand.NewSource(103))
	for range 20000 {
		l := changed(r, drawn(r, 3))
		n := places(r.Intn(4))
		var want []api.Fault
		for i := range l {
			want = append(want, at(i, expectedOfType(n, l, i)...)...)
		}
		wantFaults(t, n, l, want)
	}
}

// P10.1: what is accepted has different names, equally many dimensions, and shifts and places that exist.
func TestAcceptedTypesAreRight(t *testing.T) {
	r := rand.New(rand.NewSource(104))
	accepted := 0
	for range 20000 {
		l, names := changed(r, drawn(r, 2)), map[string]bool{}
		n := places(r.Intn(3))
		if len(fleet.Check(n, l)) > 0 {
			continue
		}
		accepted++
		for _, v := range l {
			names[v.Name] = true
			if len(v.Cap) != fleet.Dims(l) || v.Open > v.Close || v.From >= len(n.Places) || v.To >= len(n.Places) {
				t.Errorf("%v of %v in a network with %d places", v, l, len(n.Places))
			}
		}
		if len(names) != len(l) {
			t.Errorf("%v have %d names", l, len(names))
		}
	}
	if accepted < 300 {
		t.Errorf("only %d lists were accepted", accepted)
	}
}

// faultsOf returns those faults that are at the type with an index.
func faultsOf(faults []api.Fault, index int) []api.Fault {
	return slices.DeleteFunc(slices.Clone(faults), func(f api.Fault) bool { return f.At != strconv.Itoa(index) })
}

// P10.1: of earlier types only the names matter, and the dimensions of the first one; later ones do not matter at all.
func TestOtherTypesMatterOnlyByNamesAndDims(t *testing.T) {
	r := rand.New(rand.NewSource(105))
	for range 5000 {
		l := changed(r, drawn(r, 3))
		i := r.Intn(len(l))
		want := faultsOf(fleet.Check(places(2), l), i)
		other := slices.Concat(cloned(l[:i+1]), changed(r, drawn(r, 3)))
		for k := range i {
			v := changed(r, []api.Type{other[k]})[0]
			v.Name = l[k].Name
			if k == 0 {
				v.Cap = r.Perm(len(l[0].Cap))
			}
			other[k] = v
		}
		if got := faultsOf(fleet.Check(places(2), other), i); !slices.Equal(got, want) {
			t.Errorf("the type %d of %v has %v; of %v %v", i, l, want, other, got)
		}
	}
}
