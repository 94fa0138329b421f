package nat

import "strconv"

// A power of ten as the base makes reading and writing short; the square of this one, and carries, fit into 64 bits.
const (
	groupSize = 9
	base      = 1_000_000_000
)

// natural is a number as groups of decimal digits: the lowest group comes first, and the last one is not 0. Zero has no groups.
type natural []uint64

// parse reads a right text.
func parse(s string) natural {
	x := make(natural, 0, len(s)/groupSize+1)
	for end := len(s); end > 0; end -= groupSize {
		group := uint64(0)
		for i := max(0, end-groupSize); i < end; i++ {
			group = group*10 + uint64(s[i]-'0')
		}
		x = append(x, group)
	}
	return trim(x)
}

// format writes a number.
func format(x natural) string {
	if len(x) == 0 {
		return "0"
	}
	top := len(x) - 1
	s := strconv.AppendUint(make([]byte, 0, len(x)*groupSize), x[top], 10)
	for i := top - 1; i >= 0; i-- {
		s = appendGroup(s, x[i])
	}
	return string(s)
}

// appendGroup appends all digits of a group, with its leading zeros.
func appendGroup(s []byte, group uint64) []byte {
	for power := uint64(base / 10); power > 0; power /= 10 {
		s = append(s, byte('0'+group/power%10))
	}
	return s
}

// trim takes the zeros at the end away.
func trim(x natural) natural {
	for len(x) > 0 && x[len(x)-1] == 0 {
		x = x[:len(x)-1]
	}
	return x
}

func sum(x, y natural) natural {
	if len(x) < len(y) {
		x, y = y, x
	}
	z := make(natural, len(x)+1)
	carry := uint64(0)
	for i := range x {
		carry += x[i]
		if i < len(y) {
			carry += y[i]
		}
		z[i] = carry % base
		carry /= base
	}
	z[len(x)] = carry
	return trim(z)
}

// difference returns x - y, where y is not greater than x.
func difference(x, y natural) natural {
	z := make(natural, len(x))
	borrow := uint64(0)
	for i := range x {
		take := borrow
		if i < len(y) {
			take += y[i]
		}
		borrow = 0
		if x[i] < take {
			borrow = 1
		}
		z[i] = x[i] + borrow*base - take
	}
	return trim(z)
}

func product(x, y natural) natural {
	z := make(natural, len(x)+len(y))
	for i, factor := range x {
		carry := uint64(0)
		for j := range y {
			carry += z[i+j] + factor*y[j]
			z[i+j] = carry % base
			carry /= base
		}
		z[i+len(y)] = carry
	}
	return trim(z)
}
