package price_test

import (
	"math/big"
	"slices"

	"lorry/api"
)

// scoreOf is the score of a route, found order by order, and by taking away 64 ticks of the working time after the other.
func scoreOf(x api.Instance, r api.Route, s api.Sheet) api.Score {
	var sum api.Score
	for number, v := range x.Types {
		if number != r.Type {
			continue
		}
		quotient := 0
		for rest := s.End - v.Open; rest >= 64; rest -= 64 {
			quotient++
			sum.Work += 2*quotient - 1 // the difference of two squares
		}
		sum.Cost = v.PerTick*(s.End-v.Open) + v.PerMile*s.Miles + v.Fixed
		for order, o := range x.Orders {
			if slices.ContainsFunc(r.Visits, func(v api.Visit) bool { return v.Order == order }) {
				sum.Moved += changes(o.Now, number)
				sum.Other += changes(o.Last, number)
			}
		}
	}
	return sum
}

func changes(before, number int) int {
	if before == -1 || before == number {
		return 0
	}
	return 1
}

// unservedOf is the score of an order that is not served.
func unservedOf(x api.Instance, order int) (api.Score, api.Errno) {
	for number, o := range x.Orders {
		switch {
		case number != order:
		case o.Off:
			return api.Score{}, api.ErrState
		case o.Penalty == -1:
			return api.Score{}, api.ErrMissing
		case o.Now == -1:
			return score(o.Penalty, 0, 0, 0), api.OK
		default:
			return score(o.Penalty, 1, 0, 0), api.OK
		}
	}
	return api.Score{}, api.ErrArg
}

// compareOf compares scores by their first difference.
func compareOf(a, b api.Score) int {
	for part := range 4 {
		m, n := *field(&a, part), *field(&b, part)
		if m < n {
			return -1
		}
		if m > n {
			return 1
		}
	}
	return 0
}

// weightOf is the price of a score by the formula of the section Weight, in numbers of any size.
func weightOf(s api.Score) (int, api.Errno) {
	for part := range 4 {
		if *field(&s, part) < 0 {
			return 0, api.ErrArg
		}
	}
	if !isRight(s) {
		return 0, api.ErrSize
	}
	sum := new(big.Int)
	for part, factor := range []int64{16777216, 1048576, 65536, 1} {
		sum.Add(sum, new(big.Int).Mul(big.NewInt(factor), big.NewInt(int64(*field(&s, part)))))
	}
	return int(sum.Int64()), api.OK
}

// splitOf is the score of a price, found part by part from the Cost on, as often as the factor of a part fits into what is left.
func splitOf(n int) (api.Score, api.Errno) {
	if n < 0 {
		return api.Score{}, api.ErrArg
	}
	var s api.Score
	left := big.NewInt(int64(n))
	for part, factor := range []int64{16777216, 1048576, 65536, 1} {
		quotient, remainder := new(big.Int).QuoRem(left, big.NewInt(factor), new(big.Int))
		*field(&s, part), left = int(quotient.Int64()), remainder
	}
	if s.Cost > 1073741824 {
		return api.Score{}, api.ErrSize
	}
	return s, api.OK
}
