package ratio

import (
	"cmp"
	"strconv"
	"strings"

	"lorry/api"
	"lorry/nat"
	"lorry/whole"
)

// Most integers are short, and fast as ints. These fit into an int: a text of shortBytes, the sum of two integers below addLimit, and the product of two below mulLimit.
const (
	shortBytes = 18
	addLimit   = 1 << 62
	mulLimit   = 1 << 31
)

// integer is an int or, if that may be too small, the text of an integer.
type integer struct {
	short int
	long  string // empty for an int
}

// integerOf reads a right text.
func integerOf(s string) integer {
	if len(s) > shortBytes {
		return integer{0, s}
	}
	n, _ := strconv.Atoi(s)
	return integer{n, ""}
}

// text writes an integer.
func (a integer) text() string {
	if a.long != "" {
		return a.long
	}
	return whole.Of(a.short)
}

// digits writes the absolute value of an integer.
func (a integer) digits() string {
	return strings.TrimPrefix(a.text(), "-")
}

// is reports whether an integer is equal to one of few digits.
func (a integer) is(n int) bool {
	return a.long == "" && a.short == n
}

// isBelow reports whether the absolute value of an integer is known to be less than a limit.
func (a integer) isBelow(limit int) bool {
	return a.long == "" && -limit < a.short && a.short < limit
}

func (a integer) sign() int {
	if a.long != "" {
		return whole.Sign(a.long)
	}
	return cmp.Compare(a.short, 0)
}

func opposite(a integer) integer {
	if a.long == "" {
		return integer{-a.short, ""}
	}
	s, _ := whole.Neg(a.long)
	return integer{0, s}
}

func compare(a, b integer) int {
	if a.long == "" && b.long == "" {
		return cmp.Compare(a.short, b.short)
	}
	return whole.Compare(a.text(), b.text())
}

// commonDivisor returns the greatest common divisor of integers that are not both 0.
func commonDivisor(a, b integer) integer {
	if a.long != "" || b.long != "" {
		s, _ := nat.Gcd(a.digits(), b.digits())
		return integerOf(s)
	}
	x, y := a.short, b.short
	for y != 0 {
		x, y = y, x%y
	}
	return integer{max(x, -x), ""}
}

// quotient returns the quotient, rounded down, of an integer and a positive one.
func quotient(a, b integer) integer {
	if a.long != "" || b.long != "" {
		s, _, _ := whole.Div(a.text(), b.text())
		return integerOf(s)
	}
	q := a.short / b.short
	if a.short%b.short < 0 {
		q--
	}
	return integer{q, ""}
}

// chain reckons with integers, and keeps the error of one that is too long. What follows from such a one has no meaning.
type chain struct{ err api.Errno }

func (c *chain) add(a, b integer) integer {
	if a.isBelow(addLimit) && b.isBelow(addLimit) {
		return integer{a.short + b.short, ""}
	}
	return c.next(whole.Add, a, b)
}

func (c *chain) mul(a, b integer) integer {
	if a.isBelow(mulLimit) && b.isBelow(mulLimit) {
		return integer{a.short * b.short, ""}
	}
	return c.next(whole.Mul, a, b)
}

func (c *chain) next(f func(a, b string) (string, api.Errno), a, b integer) integer {
	s, e := f(a.text(), b.text())
	if e != api.OK {
		c.err = e
		return integer{}
	}
	return integerOf(s)
}
