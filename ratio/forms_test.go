package ratio_test

import (
	"math"
	"math/big"
	"math/rand"
	"strconv"
	"strings"
	"testing"

	"lorry/api"
	"lorry/ratio"
)

// allRats are right, and of all kinds.
func allRats() []api.Rat {
	return append(append(smallRats(), edgeRats()...), longRats()...)
}

// P4.1
func TestRightAcceptsNumbersInLowestTerms(t *testing.T) {
	for _, a := range append(allRats(), "-3/4", "0", "7", "1/2", "10/9", "120/7", "-1/1000000000000000000000") {
		if !ratio.Right(a) {
			t.Errorf("Right(%.80q) is false", a)
		}
	}
	r := rand.New(rand.NewSource(42))
	for range 5000 {
		if a := drawn(r, 30); !ratio.Right(a) {
			t.Errorf("Right(%q) is false", a)
		}
	}
}

// P4.1
func TestRightRefusesOtherTexts(t *testing.T) {
	for _, a := range wrongRats() {
		if ratio.Right(a) {
			t.Errorf("Right(%.80q) is true", a)
		}
	}
}

// wantRight checks a text of few bytes: it is right if it is what is written for the number that is read from it.
func wantRight(t *testing.T, s string) {
	t.Helper()
	x, ok := new(big.Rat).SetString(s)
	if want := ok && x.RatString() == s; ratio.Right(api.Rat(s)) != want {
		t.Errorf("Right(%q) is not %v", s, want)
	}
}

// eachText calls f with every text of at most most of some bytes.
func eachText(bytes string, most int, f func(s string)) {
	var extend func(s string)
	extend = func(s string) {
		f(s)
		for i := 0; len(s) < most && i < len(bytes); i++ {
			extend(s + bytes[i:i+1])
		}
	}
	extend("")
}

// P4.1
func TestRightAcceptsOnlyWhatIsWritten(t *testing.T) {
	eachText("/-01269+ ", 5, func(s string) { wantRight(t, s) })
	for i := range 256 {
		c := string([]byte{byte(i)})
		for _, s := range []string{c, c + "/2", "1/" + c, "1/1" + c, "-1" + c + "/3", "1" + c + "2", "3/2" + c, c + "3/2", "-" + c + "/7"} {
			wantRight(t, s)
		}
	}
}

// P4.1: a fraction that is not in lowest terms is not right, whatever its length.
func TestRightRefusesCommonDivisors(t *testing.T) {
	r := rand.New(rand.NewSource(43))
	for i := range 3000 {
		most := []int{3, 10, 20, 500}[i%4]
		a := number(drawn(r, most))
		n := new(big.Int).Abs(drawnInteger(r, most))
		s := api.Rat(times(a.Num(), n).String() + "/" + times(a.Denom(), n).String())
		if right := ratio.Right(s); right != (s == textOf(a)) {
			t.Errorf("Right(%.80q) is %v", s, right)
		}
	}
}

// P4.1
func TestRightHasItsLimits(t *testing.T) {
	for n := api.MaxDigits - 2; n <= api.MaxDigits+2; n++ {
		for _, s := range []string{tens(n - 1), "-" + nines(n), nines(n) + "/2", "-" + nines(n) + "/2", "2/" + nines(n), "-2/" + nines(n), tens(n-1) + "/" + nines(n)} {
			if right := ratio.Right(api.Rat(s)); right != (n <= api.MaxDigits) {
				t.Errorf("Right(%.20s..) with %d digits is %v", s, n, right)
			}
		}
	}
}

// P4.1
func TestOfWritesInts(t *testing.T) {
	l := []int{-5, 0, 1, -1, math.MaxInt, math.MinInt, math.MaxInt - 1, math.MinInt + 1, 1 << 31, -1 << 31, 1 << 62, -1 << 62}
	for n := -300; n <= 300; n++ {
		l = append(l, n)
	}
	for _, n := range l {
		if a := ratio.Of(n); string(a) != strconv.Itoa(n) || !ratio.Right(a) {
			t.Errorf("Of(%d) = %q", n, a)
		}
	}
}

func wantMade(t *testing.T, a, b string, want api.Rat, err api.Errno) {
	t.Helper()
	if s, e := ratio.Make(a, b); s != want || e != err {
		t.Errorf("Make(%.80s, %.80s) = %.80s, %d; want %.80s, %d", a, b, s, e, want, err)
	}
}

// checkMade compares Make with another implementation.
func checkMade(t *testing.T, a, b *big.Int) {
	t.Helper()
	if b.Sign() == 0 {
		wantMade(t, a.String(), "0", "", api.ErrZero)
	} else {
		wantMade(t, a.String(), b.String(), textOf(new(big.Rat).SetFrac(a, b)), api.OK)
	}
}

// P4.1
func TestMakeReturnsQuotientsInLowestTerms(t *testing.T) {
	for a := int64(-40); a <= 40; a++ {
		for b := int64(-40); b <= 40; b++ {
			checkMade(t, big.NewInt(a), big.NewInt(b))
		}
	}
	r := rand.New(rand.NewSource(44))
	for i := range 6000 {
		most := []int{6, 19, 25, 60}[i%4]
		n := drawnInteger(r, most)
		checkMade(t, times(n, drawnInteger(r, most)), times(n, drawnInteger(r, most)))
	}
	for range 30 {
		n := drawnInteger(r, 2000)
		checkMade(t, times(n, drawnInteger(r, 2000)), times(n, drawnInteger(r, 2000)))
	}
}

// P4.1
func TestMakeHasItsExamples(t *testing.T) {
	long := nines(api.MaxDigits)
	third := strings.Repeat("3", api.MaxDigits)
	for _, c := range []struct {
		a, b string
		want api.Rat
	}{
		{"6", "-4", "-3/2"}, {"0", "-7", "0"}, {"0", "7", "0"}, {"8", "4", "2"}, {"-8", "-4", "2"}, {"-6", "4", "-3/2"}, {"-1", "-3", "1/3"}, {"5", "1", "5"}, {"5", "-1", "-5"},
		{long, long, "1"}, {long, "-" + long, "-1"}, {"0", "-" + long, "0"}, {long, "1", api.Rat(long)}, {"1", "-" + long, api.Rat("-1/" + long)},
		{long, third, "3"}, {"-" + third, long, "-1/3"}, {tens(api.MaxDigits - 1), "-" + long, api.Rat("-" + tens(api.MaxDigits-1) + "/" + long)},
		{strconv.Itoa(math.MinInt), "-1", "9223372036854775808"}, {strconv.Itoa(math.MinInt), strconv.Itoa(math.MinInt), "1"}, {"1", strconv.Itoa(math.MinInt), "-1/9223372036854775808"},
	} {
		wantMade(t, c.a, c.b, c.want, api.OK)
	}
}

// P4.1: the errors of Make in their order.
func TestMakeRefusesWrongArguments(t *testing.T) {
	long := tens(api.MaxDigits)
	others := []string{"0", "1", "-5", tens(20), nines(api.MaxDigits), long, "-" + long}
	wrong := append(wrongIntegers(), "1/2", "-3/2", "4/2", "1/0", "/", long+"/1", long+"x")
	for _, s := range wrong {
		for _, other := range append(others, wrong...) {
			wantMade(t, s, other, "", api.ErrForm)
			wantMade(t, other, s, "", api.ErrForm)
		}
	}
	for _, s := range []string{long, "-" + long, nines(api.MaxDigits + 1), strings.Repeat("4", 4*api.MaxDigits)} {
		for _, other := range others {
			wantMade(t, s, other, "", api.ErrSize)
			wantMade(t, other, s, "", api.ErrSize)
		}
	}
	for _, s := range []string{"0", "1", "-7", tens(18), tens(25), "-" + nines(api.MaxDigits)} {
		wantMade(t, s, "0", "", api.ErrZero)
	}
}

// P4.1
func TestPartsInvertsMake(t *testing.T) {
	l := allRats()
	r := rand.New(rand.NewSource(45))
	for range 2000 {
		l = append(l, drawn(r, 45))
	}
	for _, a := range l {
		p, q, e := ratio.Parts(a)
		if x := number(a); p != x.Num().String() || q != x.Denom().String() || e != api.OK {
			t.Errorf("Parts(%.80s) = %.80s, %.80s, %d", a, p, q, e)
		}
		wantMade(t, p, q, a, api.OK)
	}
	for a, want := range map[api.Rat][2]string{"-3/2": {"-3", "2"}, "7": {"7", "1"}, "0": {"0", "1"}, "-1/10": {"-1", "10"}, "-9": {"-9", "1"}} {
		if p, q, e := ratio.Parts(a); p != want[0] || q != want[1] || e != api.OK {
			t.Errorf("Parts(%s) = %s, %s, %d", a, p, q, e)
		}
	}
}

// P4.1
func TestPartsRefusesOtherTexts(t *testing.T) {
	for _, a := range wrongRats() {
		if p, q, e := ratio.Parts(a); p != "" || q != "" || e != api.ErrForm {
			t.Errorf("Parts(%.80s) = %.80s, %.80s, %d; want ErrForm", a, p, q, e)
		}
	}
}
