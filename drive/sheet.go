package drive

import (
	"slices"

	"lorry/api"
)

// sheetOf returns the schedule of ways with their rests.
func sheetOf(legs []leg, rests []bool) api.Sheet {
	last := len(legs) - 1
	s := api.Sheet{Rest: rests[0], Depart: legs[0].depart, Times: make([]api.Time, last), End: legs[last].arrive}
	for i, one := range legs {
		s.Miles += one.miles
		if i < last {
			s.Times[i] = api.Time{Arrive: one.arrive, Begin: one.begin, Depart: legs[i+1].depart, Rest: rests[i+1]}
		}
	}
	return s
}

// restsOf returns the rests of a schedule.
func restsOf(s api.Sheet) []bool {
	l := make([]bool, 0, len(s.Times)+1)
	l = append(l, s.Rest)
	for _, t := range s.Times {
		l = append(l, t.Rest)
	}
	return l
}

func isSame(a, b api.Sheet) bool {
	return a.Rest == b.Rest && a.Depart == b.Depart && a.End == b.End && a.Miles == b.Miles && slices.Equal(a.Times, b.Times)
}
