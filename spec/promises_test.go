package spec_test

import (
	"math/rand"
	"testing"

	"lorry/api"
	"lorry/instance"
	"lorry/spec"
)

// wantRestored prints an instance, and reads it again.
func wantRestored(t *testing.T, x api.Instance) {
	t.Helper()
	s, err := spec.Print(x)
	if err != api.OK {
		t.Errorf("Print of %+v has the error %d", x, err)
		return
	}
	y, line, err := spec.Parse(s)
	if err != api.OK || line != 0 || !instance.Same(x, y) || !equal(x, y) {
		t.Errorf("%+v became %+v, %d, %d", x, y, line, err)
	}
	wantPrinted(t, y, s)
}

// P14.4: instances that are printed are read as they were.
func TestParseInvertsPrint(t *testing.T) {
	wantRestored(t, town())
	wantRestored(t, large(1))
	wantRestored(t, sized(maxText))
	r := rand.New(rand.NewSource(1409))
	for range 3000 {
		wantRestored(t, drawn(r))
	}
}

// P14.4: also those in which something is changed, as far as they are valid.
func TestParseInvertsPrintOfChangedInstances(t *testing.T) {
	r := rand.New(rand.NewSource(1410))
	for range 10000 {
		if x := changed(r, drawn(r)); firstFault(x) == api.OK {
			wantRestored(t, x)
		}
	}
}

// P14.4: different instances have different texts.
func TestTextsOfDifferentInstances(t *testing.T) {
	r := rand.New(rand.NewSource(1411))
	for range 5000 {
		x := drawn(r)
		y := changed(r, x)
		if firstFault(y) != api.OK {
			continue
		}
		first, _ := spec.Print(x)
		second, _ := spec.Print(y)
		if (first == second) != instance.Same(x, y) {
			t.Errorf("%+v and %+v are %q and %q", x, y, first, second)
		}
	}
}

// P14.4: what is accepted is printed as it was, also with the names that the words of lines are.
func TestPrintInvertsParse(t *testing.T) {
	for _, s := range []string{
		townText, shortText,
		"place end\nplace place\nplace arc\nplace type\nplace order\ntype before 0 0 0 0 0 0 0 0 1 0 0 0 0\norder on 0 . 0:0:0:0 0 0 1 -1 -1 off\norder off 0 0:0:0:0 . 0 0 1 -1 -1 on\norder apart 0 0:0:0:0 . 0 0 1 -1 -1 on\nend\n",
	} {
		x, line, err := spec.Parse(s)
		if err != api.OK || line != 0 {
			t.Errorf("Parse(%q) has the error %d in line %d", s, err, line)
		}
		wantPrinted(t, x, s)
	}
}
