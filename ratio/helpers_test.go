package ratio_test

import (
	"math/big"
	"math/rand"
	"slices"
	"strings"
	"testing"

	"lorry/api"
	"lorry/ratio"
)

// tens returns the power of ten with n zeros.
func tens(n int) string {
	return "1" + strings.Repeat("0", n)
}

func nines(n int) string {
	return strings.Repeat("9", n)
}

// wrongIntegers are no integers, for various reasons.
func wrongIntegers() []string {
	return []string{
		"", "-", "--", "-0", "00", "01", "-01", "--1", "1-", "+1", "+0", "-+1", "1a", "a", "x", " 1", "1 ", "- 1", "1 2", "1.", "1.0", "1_000", "0x1", "1e3", "١", "−1", "1\n", "1\x00", "\xff",
		"0" + strings.Repeat("1", 9), "-" + strings.Repeat("0", api.MaxDigits+1), nines(api.MaxDigits+1) + "x",
	}
}

// wrongRats are not right, for various reasons.
func wrongRats() []api.Rat {
	l := []api.Rat{
		"2/4", "-2/4", "6/3", "3/3", "-3/3", "3/1", "-3/1", "0/1", "0/2", "-0/2", "0/0", "1/0", "-1/0", "7/0", "1/1",
		"1/-2", "-1/-2", "1/-1", "1/+2", "+1/2", "1/02", "01/2", "-01/2", "1/2/3", "1/2/", "1//2", "/1/2", "1/", "/2", "/", "//", "-/2", "--1/2",
		"1/a", "a/2", "1/2a", "1 /2", "1/ 2", " 1/2", "1/2 ", "1/2\n", "1/2\x00", "1/2.0", "1.0/2", "0.5", "1\\2", "1:2", "1⁄2", "½", "\xff/2", "1/\xff",
		"999999937000000000000/1000000000000", api.Rat(tens(30) + "/5"), api.Rat("7" + tens(40) + "/" + tens(40)), api.Rat(tens(40) + "/" + tens(40)),
		api.Rat(tens(api.MaxDigits-1) + "/2"), api.Rat("3/" + strings.Repeat("3", api.MaxDigits)), api.Rat(tens(api.MaxDigits-1) + "/1"), api.Rat(tens(api.MaxDigits-1) + "/0"),
	}
	for _, s := range wrongIntegers() {
		l = append(l, api.Rat(s))
	}
	return append(l, tooLongRats()...)
}

// tooLongRats would be right, if they were not too long.
func tooLongRats() []api.Rat {
	long := tens(api.MaxDigits)
	return []api.Rat{
		api.Rat(long), api.Rat("-" + long), api.Rat(nines(api.MaxDigits + 1)), api.Rat(strings.Repeat("7", 5*api.MaxDigits)),
		api.Rat(long + "/3"), api.Rat("-" + long + "/3"), api.Rat("3/" + long), api.Rat("-1/" + long), api.Rat(long + "/" + nines(api.MaxDigits+1)),
	}
}

// longRats have as many digits as a limit allows, or nearly as many.
func longRats() []api.Rat {
	most := api.MaxDigits
	return bothSigns(
		api.Rat(nines(most)), api.Rat(tens(most-1)), api.Rat("1/"+nines(most)), api.Rat("1/"+tens(most-1)),
		api.Rat(nines(most)+"/"+tens(most-1)), api.Rat(tens(most-1)+"/"+nines(most)), api.Rat(nines(most)+"/2"), api.Rat("2/"+nines(most)),
		api.Rat(nines(most-1)+"8/"+nines(most)), api.Rat(nines(most)+"/"+nines(most-1)+"8"), api.Rat(tens(most-2)+"1/"+tens(most-1)),
	)
}

// smallRats are all numbers with few digits, of both signs.
func smallRats() []api.Rat {
	var l []api.Rat
	for p := int64(-7); p <= 7; p++ {
		for q := int64(1); q <= 7; q++ {
			if s := textOf(big.NewRat(p, q)); !slices.Contains(l, s) {
				l = append(l, s)
			}
		}
	}
	return l
}

// edgeRats are next to the borders of machine words and of powers of ten.
func edgeRats() []api.Rat {
	l := []api.Rat{"0", "1", "2/3"}
	var edges []*big.Int
	for _, shift := range []uint{31, 32, 61, 62, 63, 64} {
		edges = append(edges, new(big.Int).Lsh(big.NewInt(1), shift))
	}
	for _, n := range []int{9, 17, 18, 19, 27} {
		edges = append(edges, integer(tens(n)))
	}
	for _, n := range edges {
		below := new(big.Int).Sub(n, big.NewInt(1))
		l = append(l, api.Rat(n.String()), api.Rat(below.String()), api.Rat("1/"+n.String()), api.Rat(below.String()+"/"+n.String()), api.Rat(n.String()+"/"+below.String()))
	}
	return bothSigns(l...)
}

// bothSigns returns numbers, and the opposite ones.
func bothSigns(l ...api.Rat) []api.Rat {
	both := slices.Clone(l)
	for _, a := range l {
		if a != "0" {
			both = append(both, "-"+a)
		}
	}
	return both
}

// drawnInteger returns an integer of at most most digits, which is not 0.
func drawnInteger(r *rand.Rand, most int) *big.Int {
	b := make([]byte, 1+r.Intn(most))
	for i := range b {
		b[i] = "0123456789000999"[r.Intn(16)]
	}
	n := integer(string(b))
	if n.Sign() == 0 {
		n.SetInt64(1)
	}
	if r.Intn(2) == 0 {
		n.Neg(n)
	}
	return n
}

// drawn returns a number whose parts have at most most digits.
func drawn(r *rand.Rand, most int) api.Rat {
	n := drawnInteger(r, most)
	switch r.Intn(8) {
	case 0:
		n.SetInt64(0)
	case 1:
		return textOf(new(big.Rat).SetInt(n))
	}
	return textOf(new(big.Rat).SetFrac(n, drawnInteger(r, most)))
}

// eachPair calls f with pairs of numbers of all kinds.
func eachPair(f func(a, b api.Rat)) {
	for _, l := range [][]api.Rat{smallRats(), edgeRats()} {
		for _, a := range l {
			for _, b := range l {
				f(a, b)
			}
		}
	}
	long := longRats()
	for i, a := range long {
		for _, b := range []api.Rat{"0", "1", "-2/3", "1000000007/998244353", a, long[(i+5)%len(long)]} {
			f(a, b)
			f(b, a)
		}
	}
	r := rand.New(rand.NewSource(41))
	for i := range 12000 {
		most := []int{1, 2, 5, 9, 10, 19, 40}[i%7]
		f(drawn(r, most), drawn(r, 1+r.Intn(most)))
	}
	for range 30 {
		f(drawn(r, 1000), drawn(r, 1000))
	}
}

func integer(s string) *big.Int {
	n, ok := new(big.Int).SetString(s, 10)
	if !ok {
		panic(s)
	}
	return n
}

func number(a api.Rat) *big.Rat {
	x, ok := new(big.Rat).SetString(string(a))
	if !ok {
		panic(a)
	}
	return x
}

func textOf(x *big.Rat) api.Rat {
	return api.Rat(x.RatString())
}

// digits returns the number of digits of an integer.
func digits(n *big.Int) int {
	return len(new(big.Int).Abs(n).String())
}

func times(a, b *big.Int) *big.Int {
	return new(big.Int).Mul(a, b)
}

// operation is a function of the package, another implementation, and the integers that the chapter names for ErrSize.
type operation struct {
	name  string
	f     func(a, b api.Rat) (api.Rat, api.Errno)
	other func(a, b *big.Rat) *big.Rat
	named func(a, b *big.Rat) []*big.Int
}

func newRat(f func(z, a, b *big.Rat) *big.Rat) func(a, b *big.Rat) *big.Rat {
	return func(a, b *big.Rat) *big.Rat { return f(new(big.Rat), a, b) }
}

var (
	addition = operation{"Add", ratio.Add, newRat((*big.Rat).Add), func(a, b *big.Rat) []*big.Int {
		ps, rq := times(a.Num(), b.Denom()), times(b.Num(), a.Denom())
		return []*big.Int{ps, rq, new(big.Int).Add(ps, rq), times(a.Denom(), b.Denom())}
	}}
	subtraction = operation{"Sub", ratio.Sub, newRat((*big.Rat).Sub), func(a, b *big.Rat) []*big.Int {
		ps, rq := times(a.Num(), b.Denom()), times(b.Num(), a.Denom())
		return []*big.Int{ps, rq, new(big.Int).Sub(ps, rq), times(a.Denom(), b.Denom())}
	}}
	multiplication = operation{"Mul", ratio.Mul, newRat((*big.Rat).Mul), func(a, b *big.Rat) []*big.Int {
		return []*big.Int{times(a.Num(), b.Num()), times(a.Denom(), b.Denom())}
	}}
	division = operation{"Div", ratio.Div, newRat((*big.Rat).Quo), func(a, b *big.Rat) []*big.Int {
		return []*big.Int{times(a.Num(), b.Denom()), times(a.Denom(), b.Num())}
	}}
	operations = []operation{addition, subtraction, multiplication, division}
)

// tooLong returns how many of the named integers have too many digits.
func (o operation) tooLong(a, b *big.Rat) int {
	count := 0
	for _, n := range o.named(a, b) {
		if digits(n) > api.MaxDigits {
			count++
		}
	}
	return count
}

// expected returns what the chapter requires for right numbers.
func (o operation) expected(a, b api.Rat) (api.Rat, api.Errno) {
	x, y := number(a), number(b)
	switch {
	case o.name == "Div" && y.Sign() == 0:
		return "", api.ErrZero
	case o.tooLong(x, y) > 0:
		return "", api.ErrSize
	}
	return textOf(o.other(x, y)), api.OK
}

func (o operation) want(t *testing.T, a, b, result api.Rat, err api.Errno) {
	t.Helper()
	if s, e := o.f(a, b); s != result || e != err {
		t.Errorf("%s(%.80s, %.80s) = %.80s, %d; want %.80s, %d", o.name, a, b, s, e, result, err)
	}
}

// check compares a result with that of the other implementation.
func (o operation) check(t *testing.T, a, b api.Rat) {
	t.Helper()
	s, e := o.expected(a, b)
	o.want(t, a, b, s, e)
}
