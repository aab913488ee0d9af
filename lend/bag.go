package lend

import (
	"cmp"
	"slices"

	"parvise/api"
	"parvise/basic"
)

// CheckBag reports whether a bag is valid.
func CheckBag(b api.Bag) api.Errno {
	ok := basic.IsParish(b.From) && basic.IsParish(b.To) && b.From != b.To &&
		areCarried(b.Parcels) && isCount(b.Taken)
	return basic.Verdict(ok, api.ErrBag)
}

// Pack returns the bag that goes to a parish.
func Pack(d api.Desk, to int) (api.Bag, api.Errno) {
	if e := basic.First(Check(d), checkTown(d, to)); e != api.OK {
		return api.Bag{}, e
	}
	// What is wet may be lost in a flood: nobody hears of it.
	firm := firmOf(d)
	return api.Bag{From: d.Me, To: to, Parcels: slices.Clone(firm.Under[to]), Taken: firm.Taken[to]}, api.OK
}

// Open takes a bag.
func Open(d api.Desk, b api.Bag) (api.Desk, api.Errno) {
	c, e := change(d)
	if e := basic.First(e, CheckBag(b), basic.Verdict(b.To == d.Me, api.ErrBag)); e != api.OK {
		return api.Desk{}, e
	}
	c.Now.Under[b.From] = slices.DeleteFunc(c.Now.Under[b.From], func(p api.Parcel) bool { return p.No <= b.Taken })
	for _, p := range b.Parcels {
		if e := c.take(p, b.From); e != api.OK {
			return api.Desk{}, e
		}
	}
	return c.Desk, api.OK
}

// take takes a parcel from a parish, if it is the next one.
func (c *changed) take(p api.Parcel, from int) api.Errno {
	switch {
	case p.No != c.Now.Taken[from]+1:
		return api.OK
	case slices.Contains(c.Now.Holds, p.Paper):
		return api.ErrHere
	case len(c.Now.Holds) == api.MaxHolds:
		return api.ErrLong
	}
	c.Now.Taken[from] = p.No
	c.Now.Holds = put(c.Now.Holds, p.Paper, cmp.Compare)
	return api.OK
}

// areCarried reports whether parcels may be those of a bag.
func areCarried(l []api.Parcel) bool {
	if len(l) == 0 {
		return true
	}
	first := l[0].No
	return len(l) <= api.MaxParcels && basic.Within(first, 1, api.MaxCount-len(l)+1) && areNumbered(l, first)
}
