package loads

import "lorry/api"

// combine applies f to the numbers of two lists, dimension by dimension.
func combine(a, b []int, f func(x, y int) int) ([]int, api.Errno) {
	if len(a) != len(b) {
		return nil, api.ErrArg
	}
	result := make([]int, len(a))
	for i, x := range a {
		result[i] = f(x, b[i])
	}
	return result, api.OK
}

// gather applies f to the numbers of all lists, one after the other, beginning with zeros.
func gather(l [][]int, dims int, f func(x, y int) int) ([]int, api.Errno) {
	if dims < 0 || dims > api.MaxDims {
		return nil, api.ErrArg
	}
	result := make([]int, dims)
	for _, a := range l {
		if len(a) != dims {
			return nil, api.ErrArg
		}
		for i, x := range a {
			result[i] = f(result[i], x)
		}
	}
	return result, api.OK
}

func plus(x, y int) int    { return x + y }
func minus(x, y int) int   { return x - y }
func greater(x, y int) int { return max(x, y) }

func isNegative(x int) bool { return x < 0 }
func isOutside(x int) bool  { return x < 0 || x > api.MaxLoad }

// quotientUp divides positive numbers, rounded up.
func quotientUp(x, y int) int {
	return (x-1)/y + 1
}
