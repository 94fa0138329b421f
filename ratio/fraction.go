package ratio

import (
	"strings"

	"lorry/api"
	"lorry/nat"
	"lorry/whole"
)

// fraction is a rational number in lowest terms. Its bottom is positive.
type fraction struct{ top, bottom integer }

// parse reads a text, and reports whether it is right.
func parse(a api.Rat) (fraction, bool) {
	top, bottom, isBroken := strings.Cut(string(a), "/")
	if !whole.Right(top) || isLong(top) {
		return fraction{}, false
	}
	if !isBroken {
		return fromInteger(integerOf(top)), true
	}
	if !nat.Right(bottom) || isLong(bottom) || bottom == "0" || bottom == "1" {
		return fraction{}, false
	}
	x := fraction{integerOf(top), integerOf(bottom)}
	if !commonDivisor(x.top, x.bottom).is(1) {
		return fraction{}, false
	}
	return x, true
}

// parsePair reads two texts, and reports whether both are right.
func parsePair(a, b api.Rat) (fraction, fraction, bool) {
	x, okX := parse(a)
	y, okY := parse(b)
	return x, y, okX && okY
}

// isLong reports whether an integer has more digits than a limit allows.
func isLong(s string) bool {
	return len(strings.TrimPrefix(s, "-")) > api.MaxDigits
}

// result returns the text of a result, or its error.
func result(x fraction, e api.Errno) (api.Rat, api.Errno) {
	switch {
	case e != api.OK:
		return "", e
	case x.bottom.is(1):
		return api.Rat(x.top.text()), api.OK
	}
	return api.Rat(x.top.text() + "/" + x.bottom.text()), api.OK
}

func fromInteger(a integer) fraction {
	return fraction{a, integer{short: 1}}
}

// reduce brings the quotient of an integer and a positive one to lowest terms.
func reduce(top, bottom integer) fraction {
	divisor := commonDivisor(top, bottom)
	if divisor.is(1) {
		return fraction{top, bottom}
	}
	return fraction{quotient(top, divisor), quotient(bottom, divisor)}
}

// sum adds numbers to a first one, in order.
func sum(total fraction, more ...fraction) (fraction, api.Errno) {
	for _, x := range more {
		var c chain
		top := c.add(c.mul(total.top, x.bottom), c.mul(x.top, total.bottom))
		bottom := c.mul(total.bottom, x.bottom)
		if c.err != api.OK {
			return fraction{}, c.err
		}
		total = reduce(top, bottom)
	}
	return total, api.OK
}

func product(x, y fraction) (fraction, api.Errno) {
	var c chain
	top, bottom := c.mul(x.top, y.top), c.mul(x.bottom, y.bottom)
	if c.err != api.OK {
		return fraction{}, c.err
	}
	return reduce(top, bottom), api.OK
}

func negative(x fraction) fraction {
	return fraction{opposite(x.top), x.bottom}
}

// inverse returns the number whose product with x, which is not 0, is 1.
func inverse(x fraction) fraction {
	if x.top.sign() < 0 {
		return fraction{opposite(x.bottom), opposite(x.top)}
	}
	return fraction{x.bottom, x.top}
}
