package order_test

import (
	"math"
	"math/rand"
	"slices"
	"testing"

	"lorry/api"
	"lorry/order"
)

func wantVisits(t *testing.T, l []api.Order, number int, want ...api.Visit) {
	t.Helper()
	if got := order.Visits(l, number); !slices.Equal(got, want) {
		t.Errorf("Visits of %d of %+v = %v; want %v", number, l, got, want)
	}
}

func wantStop(t *testing.T, l []api.Order, v api.Visit, want api.Stop, wantErr api.Errno) {
	t.Helper()
	if got, err := order.Stop(l, v); got != want || err != wantErr {
		t.Errorf("Stop of %v of %+v = %v, %d; want %v, %d", v, l, got, err, want, wantErr)
	}
}

func pickup(number int) api.Visit   { return api.Visit{Order: number} }
func delivery(number int) api.Visit { return api.Visit{Order: number, Drop: true} }

// P11.2, P11.3: the chapter's example.
func TestAnOrderWithADeliveryAlone(t *testing.T) {
	l := []api.Order{parcel("a", 5)}
	wantVisits(t, l, 0, delivery(0))
	wantStop(t, l, pickup(0), api.Stop{}, api.ErrPair)
	wantStop(t, l, delivery(0), stop(0), api.OK)
}

// mixed returns orders with a delivery alone, a pickup alone, both and none.
func mixed() []api.Order {
	l := []api.Order{between(-1, 3), between(4, -1), between(5, 6), between(-1, -1), between(7, 7)}
	for i := range l {
		l[i].Pick.Service, l[i].Drop.Service = 2*i, 2*i+1
	}
	return l
}

// P11.2
func TestVisitsOfEachOrder(t *testing.T) {
	l := mixed()
	wantVisits(t, l, 0, delivery(0))
	wantVisits(t, l, 1, pickup(1))
	wantVisits(t, l, 2, pickup(2), delivery(2))
	wantVisits(t, l, 3)
	wantVisits(t, l, 4, pickup(4), delivery(4))
	wantVisits(t, l[1:], 0, pickup(0))
}

// P11.3: each order's own stops, as they are.
func TestStopOfEachOrder(t *testing.T) {
	l := mixed()
	for i, o := range l {
		for _, c := range []struct {
			v    api.Visit
			want api.Stop
		}{{pickup(i), o.Pick}, {delivery(i), o.Drop}} {
			if c.want.Place == -1 {
				wantStop(t, l, c.v, api.Stop{}, api.ErrPair)
			} else {
				wantStop(t, l, c.v, c.want, api.OK)
			}
		}
	}
}

// P11.2, P11.3: any number for an order, in lists of any length.
func TestOrdersThatDoNotExist(t *testing.T) {
	for count := range 80 {
		l := make([]api.Order, count)
		for i := range l {
			l[i] = between(i, 100+i)
		}
		for _, x := range append(anyInts(), count-1, count, count+1, -count) {
			if isFrom(0, x, count-1) {
				wantVisits(t, l, x, pickup(x), delivery(x))
				wantStop(t, l, pickup(x), stop(x), api.OK)
				wantStop(t, l, delivery(x), stop(100+x), api.OK)
			} else {
				wantVisits(t, l, x)
				wantStop(t, l, pickup(x), api.Stop{}, api.ErrArg)
				wantStop(t, l, delivery(x), api.Stop{}, api.ErrArg)
			}
		}
	}
	wantVisits(t, nil, 0)
	wantStop(t, nil, pickup(0), api.Stop{}, api.ErrArg)
	wantStop(t, nil, delivery(math.MaxInt), api.Stop{}, api.ErrArg)
}

// P11.2, P11.3: a visit exists just if its Place is at least 0, whatever the network is.
func TestPlacesOfAnySize(t *testing.T) {
	for _, pick := range anyInts() {
		for _, drop := range anyInts() {
			l := []api.Order{allWrong(), between(pick, drop), allWrong()}
			var want []api.Visit
			for _, c := range []struct {
				place int
				v     api.Visit
			}{{pick, pickup(1)}, {drop, delivery(1)}} {
				if c.place < 0 {
					wantStop(t, l, c.v, api.Stop{}, api.ErrPair)
				} else {
					want = append(want, c.v)
					wantStop(t, l, c.v, stop(c.place), api.OK)
				}
			}
			wantVisits(t, l, 1, want...)
		}
	}
}

// P11.3: a stop that Check does not accept is returned as it is.
func TestStopOfAWrongWindow(t *testing.T) {
	for _, x := range anyInts() {
		s := api.Stop{Place: 1, Open: x, Close: -x, Service: x}
		l := []api.Order{with(func(o *api.Order) { o.Pick = s })}
		wantStop(t, l, pickup(0), s, api.OK)
		wantStop(t, l, delivery(0), stop(0), api.OK)
	}
}

// P11.2, P11.3: no other field matters, not even Off.
func TestVisitsLookOnlyAtStops(t *testing.T) {
	r := rand.New(rand.NewSource(116))
	for range 2000 {
		l := changed(r, drawn(r, usual()))
		for i, o := range l {
			other := cloned(l)
			other[i] = api.Order{Name: "other", Pick: o.Pick, Drop: o.Drop, Off: !o.Off}
			wantVisits(t, other, i, order.Visits(l, i)...)
			for _, v := range []api.Visit{pickup(i), delivery(i)} {
				want, err := order.Stop(l, v)
				wantStop(t, other, v, want, err)
			}
		}
	}
}

// P11.6: an order that Check accepts has one or two visits, whose stops exist; those of its other visits do not.
func TestAcceptedOrdersHaveVisits(t *testing.T) {
	r := rand.New(rand.NewSource(117))
	accepted, both := 0, 0
	for range 5000 {
		l := changed(r, drawn(r, usual()))
		if len(usual().check(l)) > 0 {
			continue
		}
		accepted++
		for i := range l {
			visits := order.Visits(l, i)
			if len(visits) != 1 && len(visits) != 2 {
				t.Errorf("%+v has the visits %v", l[i], visits)
			}
			both += len(visits) - 1
			for _, v := range []api.Visit{pickup(i), delivery(i)} {
				s, err := order.Stop(l, v)
				if slices.Contains(visits, v) != (err == api.OK) || err == api.OK && !isFrom(0, s.Place, 2) {
					t.Errorf("%+v with the visits %v has the stop %v, %d of %v", l[i], visits, s, err, v)
				}
			}
		}
	}
	if accepted < 100 || both < 100 {
		t.Errorf("%d lists were accepted, with %d orders with two visits", accepted, both)
	}
}
