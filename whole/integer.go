package whole

import (
	"strings"

	"lorry/api"
	"lorry/nat"
)

// integer is a sign and an absolute value. Zero may have a sign, which format leaves out.
type integer struct {
	negative bool
	digits   string
}

// parse splits a text, which need not be right.
func parse(s string) integer {
	digits, negative := strings.CutPrefix(s, "-")
	return integer{negative, digits}
}

// format writes an integer.
func format(x integer) string {
	if x.negative && x.digits != "0" {
		return "-" + x.digits
	}
	return x.digits
}

func opposite(x integer) integer {
	return integer{!x.negative, x.digits}
}

func sum(x, y integer) (integer, api.Errno) {
	if x.negative == y.negative {
		digits, e := nat.Add(x.digits, y.digits)
		return integer{x.negative, digits}, e
	}
	if nat.Compare(x.digits, y.digits) < 0 {
		x, y = y, x
	}
	digits, e := nat.Sub(x.digits, y.digits)
	return integer{x.negative, digits}, e
}

func product(x, y integer) (integer, api.Errno) {
	digits, e := nat.Mul(x.digits, y.digits)
	return integer{x.negative != y.negative, digits}, e
}

// divide returns the quotient, rounded down, and the remainder, which has the sign of y.
func divide(x, y integer) (integer, integer, api.Errno) {
	q, r, e := nat.Div(x.digits, y.digits)
	negative := x.negative != y.negative
	if negative && e == api.OK && r != "0" {
		q, r = roundUp(q, r, y.digits)
	}
	return integer{negative, q}, integer{y.negative, r}, e
}

// roundUp returns the next quotient, and what the remainder lacks to the divisor. There are no errors: with a remainder the divisor is at least 2, so the quotient is at most half the dividend.
func roundUp(q, r, divisor string) (string, string) {
	q, _ = nat.Add(q, "1")
	r, _ = nat.Sub(divisor, r)
	return q, r
}
