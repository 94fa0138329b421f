package sample

import "lorry/api"

// Rate gives the types of an instance costs, and the orders Penalties and types that serve them now and served them last.
func Rate(r Source, x *api.Instance) {
	for i := range x.Types {
		v := &x.Types[i]
		v.Fixed = OneOf(r, 0, r.Intn(100), r.Intn(api.MaxFixed+1))
		v.PerMile, v.PerTick = OneOf(r, 0, r.Intn(5), r.Intn(api.MaxRate+1)), OneOf(r, 0, r.Intn(5), r.Intn(api.MaxRate+1))
	}
	for i := range x.Orders {
		o := &x.Orders[i]
		o.Penalty = OneOf(r, -1, 0, r.Intn(1000), r.Intn(1000001))
		o.Now, o.Last = OneOf(r, -1, r.Intn(len(x.Types))), OneOf(r, -1, r.Intn(len(x.Types)))
	}
}
