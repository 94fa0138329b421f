package spec_test

import (
	"math"
	"math/rand"
	"reflect"
	"slices"
	"strings"
	"testing"

	"lorry/api"
	"lorry/spec"
)

// R4: neither the lists are modified nor what lies behind them.
func TestArgumentsAreNotModified(t *testing.T) {
	r := rand.New(rand.NewSource(1412))
	for i := range 1000 {
		x := roomy(drawn(r))
		if i%2 == 0 {
			x = roomy(changed(r, x))
		}
		before := snapshot(x)
		spec.Print(x)
		for _, a := range x.Net.Arcs {
			spec.Travel(a.Travel)
			spec.Travel(a.Slow)
		}
		if !reflect.DeepEqual(snapshot(x), before) {
			t.Errorf("%+v became %+v", before, snapshot(x))
		}
	}
}

// R4: nil and empty lists are equivalent.
func TestEmptyLists(t *testing.T) {
	r := rand.New(rand.NewSource(1413))
	for range 300 {
		x := drawn(r)
		want, _ := spec.Print(x)
		wantPrinted(t, cloned(x), want)
		wantPrinted(t, roomy(x), want)
	}
}

// R4, R6: what is done to an instance that was read reaches no other one.
func TestResultsAreNew(t *testing.T) {
	r := rand.New(rand.NewSource(1414))
	for range 300 {
		x := drawn(r)
		s := modelText(x)
		first, _, _ := spec.Parse(s)
		second, _, _ := spec.Parse(s)
		overwrite(first)
		if !equal(second, x) {
			t.Errorf("%+v became %+v", x, second)
		}
		wantParsed(t, s, x)
	}
}

// R4: no two lists of an instance that was read share memory, even if they are equal.
func TestListsOfResultsAreApart(t *testing.T) {
	r := rand.New(rand.NewSource(1415))
	for range 300 {
		x, _, _ := spec.Parse(modelText(drawn(r)))
		all := numbersOf(reflect.ValueOf(&x).Elem())
		before := make([]int64, len(all))
		for i, number := range all {
			before[i] = number.Int()
		}
		for _, number := range all {
			number.SetInt(number.Int() + 1)
		}
		for i, number := range all {
			if number.Int() != before[i]+1 {
				t.Fatalf("a number of %+v was increased by %d", x, number.Int()-before[i])
			}
		}
	}
}

// R1, R6: instances of any kind.
func TestAllCallsEnd(t *testing.T) {
	l := []api.Instance{
		{},
		{Orders: make([]api.Order, 5)},
		{Types: make([]api.Type, 9), Orders: make([]api.Order, 70)},
		{Net: api.Network{Places: make([]string, 30), Arcs: make([]api.Arc, 30)}, Apart: make(pairs, 30), Before: make(pairs, 30)},
	}
	for _, number := range anyInts() {
		x := town()
		for _, v := range numbersOf(reflect.ValueOf(&x).Elem()) {
			v.SetInt(int64(number))
		}
		l = append(l, x)
	}
	for _, x := range l {
		wantNotPrinted(t, x, firstFault(x))
		wantModel(t, modelText(x))
		wantModel(t, modelText(x))
	}
}

// R1: long lists, which are refused.
func TestLongListsEnd(t *testing.T) {
	const long = 30000
	x := api.Instance{
		Net:    api.Network{Places: make([]string, long), Arcs: make([]api.Arc, long)},
		Types:  make([]api.Type, long),
		Orders: make([]api.Order, long),
		Apart:  slices.Repeat(pairs{{0, 1}, {-1, math.MaxInt}}, long),
		Before: slices.Repeat(pairs{{1, 0}, {62, 63}}, long),
	}
	x.Net.Places[0] = strings.Repeat("n", 1<<20)
	wantNotPrinted(t, x, api.ErrSize)
}

// R6: the same call has the same result, whichever calls were made in between.
func TestParseAgain(t *testing.T) {
	for range 3 {
		wantParsed(t, townText, town())
		wantNoForm(t, townText+"x", 18)
		wantRefused(t, "end\n", 0, api.ErrSize)
		wantNoForm(t, "", 1)
		wantParsed(t, shortText, mustRead(t, shortText))
	}
}

// mustRead returns what the model reads.
func mustRead(t *testing.T, s string) api.Instance {
	t.Helper()
	x, _, err := modelParse(s)
	if err != api.OK {
		t.Errorf("the model refuses %q with %d", s, err)
	}
	return x
}
