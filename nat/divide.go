package nat

import "math/bits"

// divide returns the quotient and the remainder of x and y, where y is not 0. The remainder takes the memory of x.
func divide(x, y natural) (natural, natural) {
	if len(x) < len(y) {
		return nil, x
	}
	rest := append(x, 0)
	quotient := make(natural, len(rest)-len(y))
groups:
	for i := len(quotient) - 1; i >= 0; i-- {
		part := rest[i : i+len(y)+1]
		quotient[i] = guess(part, y)
		if takeTimes(part, y, quotient[i]) {
			continue groups
		}
		for {
			quotient[i]--
			if putBack(part, y) {
				continue groups
			}
		}
	}
	return trim(quotient), trim(rest)
}

// guess returns the quotient of a part, which has one group more than y, and y; it may be too great by 2. The part is less than y times the base.
func guess(part, y natural) uint64 {
	n := len(y)
	if n == 1 {
		return (part[1]*base + part[0]) / y[0]
	}
	high, low := bits.Mul64(part[n]*base+part[n-1], base)
	low, carry := bits.Add64(low, part[n-2], 0)
	q, _ := bits.Div64(high+carry, low, y[n-1]*base+y[n-2])
	return min(q, base-1)
}

// takeTimes subtracts q times y from a part, and reports whether that is not negative. If it is, a power of the base is left over, from which putBack returns.
func takeTimes(part, y natural, q uint64) bool {
	carry := uint64(0)
	for i := range y {
		carry += q * y[i]
		take := carry % base
		carry /= base
		if part[i] < take {
			part[i] += base
			carry++
		}
		part[i] -= take
	}
	top := len(y)
	if part[top] < carry {
		part[top] += base - carry
		return false
	}
	part[top] -= carry
	return true
}

// putBack adds y to a part, and reports whether the part is not negative any more.
func putBack(part, y natural) bool {
	carry := uint64(0)
	for i := range y {
		carry += part[i] + y[i]
		part[i] = carry % base
		carry /= base
	}
	top := len(y)
	carry += part[top]
	part[top] = carry % base
	return carry >= base
}

// commonDivisor returns the greatest common divisor of x and y, whose memory it uses.
func commonDivisor(x, y natural) natural {
	for len(y) > 0 {
		if len(x) <= 2 && len(y) <= 2 {
			return small(smallDivisor(word(x), word(y)))
		}
		_, rest := divide(x, y)
		x, y = y, rest
	}
	return x
}

// smallDivisor is commonDivisor for numbers of few digits, which are the most frequent ones.
func smallDivisor(x, y uint64) uint64 {
	for y > 0 {
		x, y = y, x%y
	}
	return x
}

// word returns a number of at most two groups.
func word(x natural) uint64 {
	n := uint64(0)
	for i := len(x) - 1; i >= 0; i-- {
		n = n*base + x[i]
	}
	return n
}

// small returns the number with a word of less than the square of the base.
func small(n uint64) natural {
	return trim(natural{n % base, n / base})
}
