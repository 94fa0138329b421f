package network

import (
	"lorry/api"
	"lorry/text"
	"lorry/travel"
)

// maxProfile is the last profile.
const maxProfile = 7

func isPlace(n api.Network, place int) bool {
	return 0 <= place && place < len(n.Places)
}

func isTick(t int) bool {
	return 0 <= t && t <= api.MaxTime
}

func placeFaults(places []string) []api.Fault {
	var faults []api.Fault
	if len(places) > api.MaxPlaces {
		faults = append(faults, api.Fault{Err: api.ErrSize, At: "places"})
	}
	seen := make(map[string]bool, len(places))
	for i, name := range places {
		faults = append(faults, faultsAt("place", i, placeErrors(name, seen[name]))...)
		seen[name] = true
	}
	return faults
}

func placeErrors(name string, twice bool) []api.Errno {
	switch {
	case !text.Name(name):
		return []api.Errno{api.ErrName}
	case twice:
		return []api.Errno{api.ErrTwice}
	}
	return nil
}

func arcFaults(n api.Network) []api.Fault {
	var faults []api.Fault
	if len(n.Arcs) > api.MaxArcs {
		faults = append(faults, api.Fault{Err: api.ErrSize, At: "arcs"})
	}
	first := firstArcs(n.Arcs)
	for i, a := range n.Arcs {
		twice := first[wayOf(a)] < i
		faults = append(faults, faultsAt("arc", i, arcErrors(n, a, twice))...)
	}
	return faults
}

func arcErrors(n api.Network, a api.Arc, twice bool) []api.Errno {
	var errs []api.Errno
	if !isPlace(n, a.From) || !isPlace(n, a.To) {
		errs = append(errs, api.ErrPlace)
	}
	if a.Profile < 0 || a.Profile > maxProfile || a.Miles < 0 || a.Miles > api.MaxMiles || a.From == a.To {
		errs = append(errs, api.ErrArg)
	}
	if twice {
		errs = append(errs, api.ErrTwice)
	}
	for _, f := range travel.Check(a.Travel) {
		errs = append(errs, f.Err)
	}
	return append(errs, slowErrors(a.Slow)...)
}

func slowErrors(slow []api.Point) []api.Errno {
	var errs []api.Errno
	if len(slow) > api.MaxPoints {
		errs = append(errs, api.ErrSize)
	}
	for i, p := range slow {
		if !isTick(p.T) || i > 0 && p.T <= slow[i-1].T || !isTick(p.A) {
			errs = append(errs, api.ErrArg)
		}
	}
	return errs
}

// faultsAt returns a fault for each error of the element with an index.
func faultsAt(kind string, index int, errs []api.Errno) []api.Fault {
	var faults []api.Fault
	for _, err := range errs {
		faults = append(faults, api.Fault{Err: err, At: kind + " " + text.Decimal(index)})
	}
	return faults
}
