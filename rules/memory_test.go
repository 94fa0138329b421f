package rules_test

import (
	"math"
	"math/rand"
	"reflect"
	"slices"
	"testing"

	"lorry/api"
	"lorry/rules"
)

// results calls every function with an instance and two numbers, and returns what they return.
func results(x api.Instance, a, b int) []any {
	r := []any{rules.Never(x)}
	for _, orders := range []int{a, b, len(x.Orders)} {
		r = append(r, rules.Check(orders, x.Apart, x.Before), rules.Closure(orders, x.Before), rules.Closure(orders, x.Apart))
	}
	for _, number := range []int{a, b, 0, 1, len(x.Orders) - 1, len(x.Orders), 1<<len(x.Orders) - 1} {
		r = append(r, rules.Allowed(x, number), rules.Needs(x, number))
	}
	return r
}

// wrong returns an instance with numbers of pairs that can be those of no orders, more than once.
func wrong(r *rand.Rand) api.Instance {
	list := func() pairs {
		numbers, l := anyInts(), make(pairs, r.Intn(30))
		for i := range l {
			l[i] = [2]int{numbers[r.Intn(len(numbers))], numbers[r.Intn(len(numbers))]}
		}
		return l
	}
	x := instance(r.Intn(70), list(), list())
	for i := range x.Orders {
		x.Orders[i].Off = r.Intn(8) == 0
	}
	return x
}

// R4: neither the lists are modified nor what lies behind them.
func TestArgumentsAreNotModified(t *testing.T) {
	r := rand.New(rand.NewSource(133))
	for i := range 1000 {
		whole := drawn(r)
		if i%2 == 1 {
			whole = wrong(r)
		}
		whole.Orders = append(whole.Orders, api.Order{Name: "behind"})
		whole.Apart, whole.Before = append(whole.Apart, [2]int{1, 0}), append(whole.Before, [2]int{0, 1})
		before := api.Instance{Orders: slices.Clone(whole.Orders), Apart: slices.Clone(whole.Apart), Before: slices.Clone(whole.Before)}
		x := api.Instance{Orders: front(whole.Orders), Apart: front(whole.Apart), Before: front(whole.Before)}
		results(x, 3, -1)
		if !reflect.DeepEqual(whole, before) {
			t.Errorf("%s became %s", show(before), show(whole))
		}
	}
}

// front returns a list without its last element, which stays behind it.
func front[T any](l []T) []T { return l[:len(l)-1] }

// R4, R6: results are new, and the same ones each time.
func TestResultsAreNew(t *testing.T) {
	before := pairs{{0, 1}, {1, 2}, {0, 2}}
	l, kept := rules.Closure(3, before), rules.Closure(3, before)
	clear(l[:cap(l)])
	clear(before)
	if want := (pairs{{0, 1}, {0, 2}, {1, 2}}); !slices.Equal(kept, want) {
		t.Errorf("the closure became %v; want %v", kept, want)
	}
	wantClosure(t, 3, chain(0, 1, 2), kept)
	faults := rules.Check(1, pairs{{0, 1}}, pairs{{1, 0}})
	clear(faults[:cap(faults)])
	wantFaults(t, 1, pairs{{0, 1}}, pairs{{1, 0}}, at(api.ErrArg, "apart 0"), at(api.ErrArg, "before 0"))
}

// R1: whatever the arguments are; R6: the same call has the same results.
func TestAllCallsEnd(t *testing.T) {
	r := rand.New(rand.NewSource(134))
	numbers := anyInts()
	for i := range 3000 {
		x := wrong(r)
		if i%3 == 0 {
			x = drawn(r)
		}
		a, b := numbers[r.Intn(len(numbers))], numbers[r.Intn(len(numbers))]
		if first, second := results(x, a, b), results(x, a, b); !reflect.DeepEqual(first, second) {
			t.Errorf("%s, %d, %d: %v, then %v", show(x), a, b, first, second)
		}
	}
}

// R1: each number as each argument, and at each place of a pair.
func TestAllNumbersEnd(t *testing.T) {
	for _, orders := range []int{0, 1, 3, 10, 11, 62, 63, 64, 65, 200} {
		for _, a := range anyInts() {
			for _, b := range anyInts() {
				l := pairs{{a, b}, {0, 1}, {b, a}, {1, 0}, {a, a}, {1, a}, {b, 1}, {a, b}}
				results(instance(orders, l, l), a, b)
			}
		}
	}
	results(api.Instance{}, 0, 0)
}

// R1: long lists, too.
func TestLongListsEnd(t *testing.T) {
	const long = 100000
	numbers := make([]int, long)
	for i := range numbers {
		numbers[i] = i
	}
	for _, l := range []pairs{chain(numbers...), circle(numbers...), slices.Repeat(chain(1, 0), long), slices.Repeat(circle(1, 0, 62), long/3), slices.Repeat(pairs{{-1, math.MaxInt}}, long)} {
		x := instance(long, l, l)
		results(x, long, math.MaxInt)
		x = instance(10, l, l)
		results(x, 10, -1)
	}
	results(without(instance(long, nil, chain(0, 1)), long-1, 70, 1), 1, 3)
}
