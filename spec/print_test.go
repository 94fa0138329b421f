package spec_test

import (
	"math/rand"
	"slices"
	"strings"
	"testing"

	"lorry/api"
	"lorry/spec"
)

// P14.1: each field has its place in its line.
func TestPrintWritesTheTown(t *testing.T) {
	wantPrinted(t, town(), townText)
}

// P14.1: as few and as many things of a kind as there can be.
func TestPrintWritesFewThings(t *testing.T) {
	x := api.Instance{Net: api.Network{Places: []string{"A"}}, Types: []api.Type{{Name: "v", Cap: []int{0}, Drive: 1}}}
	want := "place A\ntype v 0 0 0 0 0 0 0 0 1 0 0 0 0\nend\n"
	wantPrinted(t, x, want)
	x.Net.Arcs, x.Orders, x.Apart, x.Before = []api.Arc{}, []api.Order{}, pairs{}, pairs{}
	wantPrinted(t, x, want)
	x.Orders = []api.Order{{Name: "o", Load: []int{1000}, Pick: gone(), Split: 4, Penalty: -1, Last: -1, Now: -1}}
	wantPrinted(t, x, "place A\ntype v 0 0 0 0 0 0 0 0 1 0 0 0 0\norder o 1000 . 0:0:0:0 0 -1 4 -1 -1 on\nend\n")
	x.Orders[0].Off = true
	wantPrinted(t, x, "place A\ntype v 0 0 0 0 0 0 0 0 1 0 0 0 0\norder o 1000 . 0:0:0:0 0 -1 4 -1 -1 off\nend\n")
}

// P14.1: an instance without one of the kinds has no lines of this kind.
func TestPrintLeavesOutWhatIsNotThere(t *testing.T) {
	for word, change := range map[string]func(x *api.Instance){
		"arc":    func(x *api.Instance) { x.Net.Arcs = nil },
		"apart":  func(x *api.Instance) { x.Apart = nil },
		"before": func(x *api.Instance) { x.Before = pairs{} },
	} {
		var want []string
		for _, line := range linesOf(townText) {
			if !strings.HasPrefix(line, word) {
				want = append(want, line)
			}
		}
		wantPrinted(t, with(change), joined(want...))
	}
	lines := linesOf(townText)
	wantPrinted(t, with(func(x *api.Instance) { x.Orders, x.Apart, x.Before = nil, nil, nil }), joined(slices.Concat(lines[:8], lines[16:])...))
}

// P14.1: a thing of each kind is changed in one way, and one line with it.
func TestPrintWritesEachPart(t *testing.T) {
	var far, slow []api.Point
	for i := range 16 {
		far, slow = append(far, api.Point{T: 256 * i, A: 256*i + 4096}), append(slow, api.Point{T: 4081 + i, A: i})
	}
	for _, c := range []struct {
		change func(x *api.Instance)
		line   int
		want   string
	}{
		{func(x *api.Instance) { x.Net.Places[1] = "sixteen_letters_" }, 2, "place sixteen_letters_"},
		{func(x *api.Instance) { x.Net.Places[0] = "place" }, 1, "place place"},
		{func(x *api.Instance) { x.Net.Places[2] = "end" }, 3, "place end"},
		{func(x *api.Instance) { x.Net.Arcs[0].Slow = nil }, 4, "arc 0 1 2 3 4:10,20:40 ."},
		{func(x *api.Instance) { x.Net.Arcs[0].Slow = []api.Point{} }, 4, "arc 0 1 2 3 4:10,20:40 ."},
		{func(x *api.Instance) { x.Net.Arcs[1].Travel, x.Net.Arcs[1].Slow = far, slow }, 5, "arc 1 0 2 15 0:4096,256:4352,512:4608,768:4864,1024:5120,1280:5376,1536:5632,1792:5888,2048:6144,2304:6400,2560:6656,2816:6912,3072:7168,3328:7424,3584:7680,3840:7936 4081:0,4082:1,4083:2,4084:3,4085:4,4086:5,4087:6,4088:7,4089:8,4090:9,4091:10,4092:11,4093:12,4094:13,4095:14,4096:15"},
		{func(x *api.Instance) { x.Types[1].Name, x.Types[1].Count = "order", 10 }, 8, "type order 10 2 0 8,12 0 7 0 4096 4095 1 100000 100 99"},
		{func(x *api.Instance) { x.Types[0].Skills = 1<<30 - 1 }, 7, "type van 2 0 1 9,4 1073741823 6 11 400 100 30 70 5 8"},
		{func(x *api.Instance) { x.Orders[0].Off = true }, 9, "order a 3,1 . 1:10:20:5 1 -1 2 -1 0 off"},
		{func(x *api.Instance) { x.Orders[1].Off = false }, 10, "order b 2,0 0:6:90:7 2:8:95:9 12 50 1 0 -1 on"},
		{func(x *api.Instance) { x.Orders[1].Pick = api.Stop{} }, 10, "order b 2,0 0:0:0:0 2:8:95:9 12 50 1 0 -1 off"},
		{func(x *api.Instance) { x.Orders[1].Drop = gone() }, 10, "order b 2,0 0:6:90:7 . 12 50 1 0 -1 off"},
		{func(x *api.Instance) { x.Orders[2].Penalty = 0 }, 11, "order c 0,7 2:13:14:6 . 4 0 3 1 0 on"},
		{func(x *api.Instance) { x.Apart[1] = [2]int{1, 2} }, 13, "apart 1 2"},
		{func(x *api.Instance) { x.Before[0] = [2]int{0, 2} }, 14, "before 0 2"},
	} {
		wantPrinted(t, with(c.change), withLine(townText, c.line, c.want))
	}
}

// P14.1: the numbers of the elements of lists.
func TestPrintWritesLoadsOfAllDimensions(t *testing.T) {
	for dims, want := range map[int][2]string{1: {"9", "3"}, 2: {"9,0", "3,1"}, 3: {"9,0,1000", "3,1,1000"}} {
		x := with(func(x *api.Instance) {
			x.Types, x.Orders, x.Apart, x.Before = x.Types[:1], x.Orders[:1], nil, nil
			x.Types[0].Cap, x.Orders[0].Load = []int{9, 0, 1000}[:dims], []int{3, 1, 1000}[:dims]
		})
		lines := linesOf(townText)
		wantPrinted(t, x, joined(append(lines[:6:6], "type van 2 0 1 "+want[0]+" 3 6 11 400 100 30 70 5 8", "order a "+want[1]+" . 1:10:20:5 1 -1 2 -1 0 on", "end")...))
	}
}

// P14.1
func TestPrintFollowsTheModel(t *testing.T) {
	r := rand.New(rand.NewSource(1401))
	for range 2000 {
		x := drawn(r)
		wantPrinted(t, x, modelText(x))
	}
}

// violations has a violation of each part, in the order in which instance.Check finds them.
func violations() []func(x *api.Instance) api.Errno {
	return []func(x *api.Instance) api.Errno{
		func(x *api.Instance) api.Errno { x.Net.Places[1] = "hub"; return api.ErrTwice },
		func(x *api.Instance) api.Errno { x.Net.Arcs[2].From = 3; return api.ErrPlace },
		func(x *api.Instance) api.Errno { x.Types[1].Close = 4097; return api.ErrClose },
		func(x *api.Instance) api.Errno {
			x.Orders[0].Pick = api.Stop{Place: -1, Close: 1}
			return api.ErrWindow
		},
		func(x *api.Instance) api.Errno { x.Orders[2].Skills = -1; return api.ErrSkill },
		func(x *api.Instance) api.Errno { x.Apart[0] = [2]int{1, 1}; return api.ErrArg },
		func(x *api.Instance) api.Errno { x.Before[2] = [2]int{0, 1}; return api.ErrTwice },
	}
}

// eachViolation shows all instances that have some of the violations, with the code of the first one.
func eachViolation(show func(x api.Instance, want api.Errno)) {
	all := violations()
	for set := 1; set < 1<<len(all); set++ {
		x, want := town(), api.OK
		for i, violate := range all {
			if set>>i&1 == 0 {
				continue
			}
			if err := violate(&x); want == api.OK {
				want = err
			}
		}
		show(x, want)
	}
}

// P14.1: the first violation is the error.
func TestPrintRefusesInstances(t *testing.T) {
	eachViolation(func(x api.Instance, want api.Errno) { wantNotPrinted(t, x, want) })
	wantNotPrinted(t, api.Instance{}, api.ErrSize)
	wantNotPrinted(t, with(func(x *api.Instance) { x.Types = nil }), api.ErrSize)
	wantNotPrinted(t, with(func(x *api.Instance) { x.Net.Places = nil }), api.ErrPlace)
	wantNotPrinted(t, with(func(x *api.Instance) { x.Net.Places[0] = "a b" }), api.ErrName)
	wantNotPrinted(t, with(func(x *api.Instance) { x.Net.Places[0] = "end\n" }), api.ErrName)
	wantNotPrinted(t, with(func(x *api.Instance) { x.Net.Arcs[0].Travel = nil }), api.ErrSize)
	wantNotPrinted(t, with(func(x *api.Instance) { x.Types[0].Cap = nil }), api.ErrLoad)
	wantNotPrinted(t, with(func(x *api.Instance) { x.Orders[1].Load = nil }), api.ErrLoad)
	wantNotPrinted(t, with(func(x *api.Instance) { x.Orders[0].Drop = gone() }), api.ErrPair)
}

// P14.1: an instance is printed just if it has no violation.
func TestPrintFollowsCheck(t *testing.T) {
	r := rand.New(rand.NewSource(1402))
	printed := 0
	for range 10000 {
		x := changed(r, drawn(r))
		if err := firstFault(x); err != api.OK {
			wantNotPrinted(t, x, err)
		} else {
			wantPrinted(t, x, modelText(x))
			printed++
		}
	}
	if printed < 500 || printed > 9500 {
		t.Errorf("%d instances were printed", printed)
	}
}

// R6
func TestPrintAgain(t *testing.T) {
	x := town()
	first, _ := spec.Print(x)
	x.Net.Places[0] = "other"
	wantPrinted(t, town(), first)
	wantPrinted(t, x, strings.Replace(first, "hub", "other", 1))
}
