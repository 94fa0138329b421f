package sample_test

import (
	"math/rand"
	"reflect"
	"testing"

	"lorry/api"
	"lorry/drive"
	"lorry/instance"
	"lorry/internal/sample"
)

func TestTown(t *testing.T) {
	x := sample.Town("0>1 7, 1>4 5m 0:10 9:12 ~30:4 p3", "0>2 5-90 40/7, 1>1 0-9 1/0 p3", "1@30-40+2 -, - 2@0-9+1")
	want := api.Instance{Net: api.Network{Places: []string{"hub", "mill", "dock", "farm", "port"}}}
	want.Net.Arcs = []api.Arc{
		{To: 1, Travel: []api.Point{{A: 7}}},
		{From: 1, To: 4, Miles: 5, Profile: 3, Travel: []api.Point{{A: 10}, {T: 9, A: 12}}, Slow: []api.Point{{T: 30, A: 4}}},
	}
	want.Types = []api.Type{
		{Name: "van0", Count: 1, Cap: []int{9}, To: 2, Open: 5, Close: 90, Drive: 40, Rest: 7},
		{Name: "van1", Count: 1, Cap: []int{9}, From: 1, To: 1, Close: 9, Drive: 1, Profile: 3},
	}
	none := api.Stop{Place: -1}
	want.Orders = []api.Order{
		{Name: "o0", Load: []int{1}, Pick: api.Stop{Place: 1, Open: 30, Close: 40, Service: 2}, Drop: none, Penalty: -1, Split: 1, Last: -1, Now: -1},
		{Name: "o1", Load: []int{1}, Pick: none, Drop: api.Stop{Place: 2, Close: 9, Service: 1}, Penalty: -1, Split: 1, Last: -1, Now: -1},
	}
	if !reflect.DeepEqual(x, want) {
		t.Errorf("%+v; want %+v", x, want)
	}
	if x = sample.Town("", "", ""); len(x.Net.Arcs)+len(x.Types)+len(x.Orders) > 0 {
		t.Errorf("%+v", x)
	}
}

func TestRoutesAndSchedules(t *testing.T) {
	r := sample.Route(2, 7, "aBb")
	r.Rests = sample.Rests("-*")
	want := api.Route{Type: 2, Start: 7, Rests: []bool{false, true}, Visits: []api.Visit{{}, {Order: 1, Drop: true}, {Order: 1}}}
	if !reflect.DeepEqual(r, want) || sample.ShowVisits(r.Visits) != "aBb" || sample.ShowRests(r.Rests) != "-*" {
		t.Errorf("%+v; want %+v", r, want)
	}
	s := api.Sheet{Rest: true, Depart: 5, Times: []api.Time{{Arrive: 6, Begin: 7, Depart: 8}, {Arrive: 9, Begin: 10, Depart: 14, Rest: true}}, End: 20, Miles: 3}
	if got := sample.Show(s); got != "5* 6/7/8 9/10/14* 20 3m" {
		t.Error(got)
	}
}

// What is drawn is right, and so is what gets longer lists; what is damaged or spoiled is wrong most times.
func TestDraw(t *testing.T) {
	r := rand.New(rand.NewSource(1))
	wrong := 0
	for range 500 {
		size := sample.OneOf(r, 4, 10, 30, 300)
		x := sample.Draw(r, size, 1+r.Intn(10))
		one := sample.DrawRoute(r, x, r.Intn(21), size)
		sample.Tire(r, &x, one)
		sample.Rate(r, &x)
		m := sample.Lengthen(&x, &one)
		if faults := instance.Check(x); len(faults) > 0 || len(m.Visits) != len(one.Visits)+1 {
			t.Fatalf("%s: %v", sample.About(x, one), faults)
		}
		if _, err := drive.Best(x, one); err == api.ErrArg {
			t.Errorf("%s is not possible here", sample.About(x, one))
		}
		if _, err := drive.Best(x, sample.Damage(r, x, one)); err != api.ErrArg && len(one.Visits) <= 20 {
			t.Errorf("%s is possible here, though it is damaged", sample.About(x, one))
		}
		sample.Spoil(r, &x, &one)
		if len(instance.Check(x)) > 0 {
			wrong++
		}
	}
	if wrong < 400 {
		t.Errorf("%d instances are wrong", wrong)
	}
}
