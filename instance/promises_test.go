package instance_test

import (
	"math/bits"
	"math/rand"
	"slices"
	"testing"

	"lorry/api"
	"lorry/instance"
)

// P13.2: Only of a valid instance is valid, for each set of its orders.
func TestOnlyOfAValidInstanceIsValid(t *testing.T) {
	r := rand.New(rand.NewSource(137))
	for range 200 {
		x := drawn(r)
		for set := range 1 << len(x.Orders) {
			y, _ := only(t, x, set)
			if faults := instance.Check(y); len(faults) > 0 {
				t.Errorf("Only of %b of %+v has the faults %v", set, x, faults)
			}
		}
	}
}

// P13.2: for all orders, Only returns the instance itself.
func TestOnlyOfAllIsTheInstance(t *testing.T) {
	r := rand.New(rand.NewSource(138))
	for range 500 {
		x := drawn(r)
		for i := range x.Orders {
			x.Orders[i].Off = false
		}
		y, numbers := only(t, x, instance.All(x))
		wantSame(t, "Only of All", x, y, true)
		if !equal(x, y) || len(numbers) != len(x.Orders) {
			t.Errorf("Only of All of %+v = %+v, %v", x, y, numbers)
		}
		for i, number := range numbers {
			if number != i {
				t.Errorf("the order %d was the order %d", i, number)
			}
		}
	}
	for orders := range 61 {
		y, _ := only(t, crowd(orders), instance.All(crowd(orders)))
		wantSame(t, "Only of All", crowd(orders), y, true)
	}
}

// P13.2: with cancelled orders, Only of All leaves these out, and Only of the whole set keeps them.
func TestOnlyKeepsCancelledOrders(t *testing.T) {
	x := town(4)
	x.Orders[1].Off = true
	whole, _ := only(t, x, 15)
	wantSame(t, "the whole set", x, whole, true)
	some, numbers := only(t, x, instance.All(x))
	if !slices.Equal(numbers, []int{0, 2, 3}) || instance.All(some) != 7 || !slices.Equal(some.Apart, pairs{{2, 1}}) || !slices.Equal(some.Before, pairs{{1, 2}}) {
		t.Errorf("%v, %b, apart %v, before %v", numbers, instance.All(some), some.Apart, some.Before)
	}
}

// wantOnlyOfOnly takes orders of a set, and of these the ones of another set.
func wantOnlyOfOnly(t *testing.T, x api.Instance, first, second int) {
	t.Helper()
	y, numbers := only(t, x, first)
	z, again := only(t, y, second)
	var remaining []int
	for _, i := range again {
		remaining = append(remaining, numbers[i])
	}
	want, wantNumbers := only(t, x, setOf(remaining...))
	if !equal(z, want) || !instance.Same(z, want) || !slices.Equal(remaining, wantNumbers) {
		t.Errorf("Only of %b and %b of %+v = %+v, %v; want %+v, %v", first, second, x, z, remaining, want, wantNumbers)
	}
}

// P13.2: Only of Only is Only of the orders that remain.
func TestOnlyOfOnly(t *testing.T) {
	x := town(5)
	for first := range 1 << 5 {
		for second := range 1 << bits.OnesCount(uint(first)) {
			wantOnlyOfOnly(t, x, first, second)
		}
	}
	r := rand.New(rand.NewSource(139))
	for range 2000 {
		x := mixed(r)
		first := r.Int() & (1<<len(x.Orders) - 1)
		wantOnlyOfOnly(t, x, first, r.Int()&(1<<bits.OnesCount(uint(first))-1))
	}
}

// P13.3: Must is contained in All. Example 2: Must of Only has as many orders as Must that are in the set; so has All.
func TestSetsOfOnly(t *testing.T) {
	r := rand.New(rand.NewSource(140))
	for range 3000 {
		x := mixed(r)
		set := r.Int() & (1<<len(x.Orders) - 1)
		y, numbers := only(t, x, set)
		for name, of := range map[string]func(x api.Instance) int{"All": instance.All, "Must": instance.Must} {
			if got, want := bits.OnesCount(uint(of(y))), bits.OnesCount(uint(of(x)&set)); got != want {
				t.Errorf("%s of Only of %b of %+v has %d orders; want %d", name, set, x, got, want)
			}
			for i, number := range numbers {
				if in(of(y), i) != in(of(x), number) {
					t.Errorf("%s of Only of %b of %+v = %b, but %b", name, set, x, of(y), of(x))
				}
			}
		}
		if instance.Must(x)&^instance.All(x) != 0 || instance.Must(y)&^instance.All(y) != 0 {
			t.Errorf("Must of %+v is not in All", x)
		}
	}
}
