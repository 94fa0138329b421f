package fleet

import (
	"lorry/api"
	"lorry/loads"
	"lorry/text"
)

const (
	maxProfile = 7
	maxSkills  = 1<<30 - 1
)

// rule is whether a rule is broken, and the error that it then gives.
type rule struct {
	broken bool
	err    api.Errno
}

// rulesOf applies all rules to a type, in their order.
func rulesOf(t api.Type, places, dims int, twice bool) []rule {
	return []rule{
		{!text.Name(t.Name), api.ErrName},
		{twice, api.ErrTwice},
		{!isCount(t.Count), api.ErrCount},
		{!isUpTo(t.From, places-1) || !isUpTo(t.To, places-1), api.ErrPlace},
		{!isCapacity(t.Cap, dims), api.ErrLoad},
		{!isUpTo(t.Skills, maxSkills), api.ErrSkill},
		{!isUpTo(t.Open, t.Close) || t.Close > api.MaxTime, api.ErrClose},
		{t.Drive == 0 || !isUpTo(t.Drive, api.MaxTime) || !isUpTo(t.Rest, api.MaxTime), api.ErrRest},
		{!isUpTo(t.Profile, maxProfile) || !areCosts(t), api.ErrArg},
	}
}

// faultsAt returns a fault for each broken rule of the type with an index.
func faultsAt(index int, rules []rule) []api.Fault {
	var faults []api.Fault
	for _, r := range rules {
		if r.broken {
			faults = append(faults, api.Fault{Err: r.err, At: text.Decimal(index)})
		}
	}
	return faults
}

// isCapacity reports whether a list is a capacity of so many dimensions, which are those of the first type and can be too few or too many.
func isCapacity(a []int, dims int) bool {
	return 1 <= dims && dims <= api.MaxDims && loads.Right(a, dims)
}

func areCosts(t api.Type) bool {
	return isUpTo(t.Fixed, api.MaxFixed) && isUpTo(t.PerMile, api.MaxRate) && isUpTo(t.PerTick, api.MaxRate)
}

func isCount(x int) bool { return isUpTo(x, api.MaxCount) }

func isUpTo(x, most int) bool { return 0 <= x && x <= most }
