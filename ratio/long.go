package ratio

import (
	"strings"

	"lorry/api"
	"lorry/nat"
	"lorry/whole"
)

// limbDigits is so short that no sum of products of limbs is too long for nat.
const limbDigits = api.MaxDigits / 4

// compareLong compares numbers also if the products that decide are too long for whole.
func compareLong(x, y fraction) int {
	left := longProduct(x.top.text(), y.bottom.text())
	right := longProduct(y.top.text(), x.bottom.text())
	return whole.Compare(left, right)
}

// longProduct returns the product of an integer and a positive one.
func longProduct(a, b string) string {
	digits, isNegative := strings.CutPrefix(a, "-")
	s := limbProduct(limbs(digits), limbs(b))
	if isNegative {
		return "-" + s
	}
	return s
}

// limbProduct multiplies natural numbers limb by limb.
func limbProduct(x, y []string) string {
	digits, carry := "", "0"
	for i := range len(x) + len(y) - 1 {
		column := fill(columnSum(x, y, i, carry))
		top := len(column) - limbDigits
		digits = column[top:] + digits
		carry = trim(column[:top])
	}
	return trim(carry + digits)
}

// columnSum adds the products of all limbs whose places add up to i to a carry.
func columnSum(x, y []string, i int, carry string) string {
	for j := max(0, i-len(y)+1); j <= min(i, len(x)-1); j++ {
		s, _ := nat.Mul(x[j], y[i-j])
		carry, _ = nat.Add(carry, s)
	}
	return carry
}

// limbs splits a natural number into parts of limbDigits digits. The lowest one comes first.
func limbs(a string) []string {
	var l []string
	for len(a) > limbDigits {
		top := len(a) - limbDigits
		l = append(l, trim(a[top:]))
		a = a[:top]
	}
	return append(l, a)
}

// fill puts zeros before digits that are less than a limb.
func fill(a string) string {
	return strings.Repeat("0", max(0, limbDigits-len(a))) + a
}

// trim takes the zeros at the beginning away.
func trim(a string) string {
	a = strings.TrimLeft(a, "0")
	if a == "" {
		return "0"
	}
	return a
}
