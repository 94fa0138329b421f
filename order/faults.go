package order

import (
	"lorry/api"
	"lorry/loads"
	"lorry/text"
	"lorry/window"
)

const (
	maxSkills  = 1<<30 - 1
	maxPenalty = 1000000
)

// none is the Place of a stop that is none, the type of an order that has none, and the Penalty of one that must be served.
const none = -1

// limits is how many places, dimensions and types there are where orders are checked.
type limits struct {
	places, dims, types int
}

// appendFaults appends the faults of the order with an index; named is whether an earlier order has its name.
func (m limits) appendFaults(faults []api.Fault, index int, o api.Order, named bool) []api.Fault {
	for _, rule := range []struct {
		holds bool
		err   api.Errno
	}{
		{text.Name(o.Name), api.ErrName},
		{!named, api.ErrTwice},
		{loads.Right(o.Load, m.dims), api.ErrLoad},
		{m.hasPlace(o.Pick) && m.hasPlace(o.Drop), api.ErrPlace},
		{o.Pick.Place != none || o.Drop.Place != none, api.ErrPair},
		{window.Check(o.Pick) == api.OK && window.Check(o.Drop) == api.OK, api.ErrWindow},
		{isFrom(0, o.Skills, maxSkills), api.ErrSkill},
		{isFrom(none, o.Penalty, maxPenalty) && isSplit(o) && m.isType(o.Last) && m.isType(o.Now), api.ErrArg},
	} {
		if !rule.holds {
			faults = append(faults, api.Fault{Err: rule.err, At: text.Decimal(index)})
		}
	}
	return faults
}

func (m limits) hasPlace(s api.Stop) bool { return isNumberOrNone(s.Place, m.places) }

func (m limits) isType(t int) bool { return isNumberOrNone(t, m.types) }

// isSplit reports whether an order can be divided as its Split says; one with both a pickup and a delivery cannot.
func isSplit(o api.Order) bool {
	return o.Split == 1 || isFrom(2, o.Split, api.MaxParts) && (o.Pick.Place == none || o.Drop.Place == none)
}

// isNumberOrNone compares with the count itself, because the least int has no number before it.
func isNumberOrNone(x, count int) bool { return none <= x && x < count }

func isFrom(least, x, most int) bool { return least <= x && x <= most }
