package loan

import (
	"slices"

	"parvise/api"
	"parvise/basic"
)

// Double returns two receipts that cannot both be right.
func Double(l api.Ledger, known int) ([]int, api.Errno) {
	if e := basic.First(Check(l), basic.CheckDays(known)); e != api.OK {
		return nil, e
	}
	x, y, found := open(l, known).double()
	if !found {
		return nil, api.ErrAgree
	}
	return []int{x.Source, y.Source}, api.OK
}

// CheckDouble reports whether two receipts cannot both be right.
func CheckDouble(l api.Ledger, known int, by []int) api.Errno {
	if e := basic.First(Check(l), basic.CheckDays(known)); e != api.OK {
		return e
	}
	if len(by) != 2 || by[0] >= by[1] {
		return api.ErrAgree
	}
	a := open(l, known)
	x, isX := a.receipt(by[0])
	y, isY := a.receipt(by[1])
	return basic.Verdict(isX && isY && a.areDouble(x, y), api.ErrAgree)
}

// Clash returns sights that contradict each other.
func Clash(l api.Ledger, known int) ([]int, api.Errno) {
	if e := basic.First(Check(l), basic.CheckDays(known)); e != api.OK {
		return nil, e
	}
	a := open(l, known)
	if e := a.agree(); e != api.OK {
		return nil, e
	}
	for _, s := range a.sights {
		if a.contradict(s) {
			return []int{s.Source}, api.OK
		}
	}
	// Two are enough: days that are too few for all sights are too few for one that says 'not later' and one that says 'not earlier'.
	for i, s := range a.sights {
		for _, other := range a.sights[i+1:] {
			if a.contradict(s, other) {
				return []int{s.Source, other.Source}, api.OK
			}
		}
	}
	return nil, api.ErrAgree
}

// CheckClash reports whether sights contradict each other.
func CheckClash(l api.Ledger, known int, by []int) api.Errno {
	if e := basic.First(Check(l), basic.CheckDays(known)); e != api.OK {
		return e
	}
	a := open(l, known)
	if e := a.agree(); e != api.OK {
		return e
	}
	sights, found := a.find(by)
	if !found || !a.contradict(sights...) {
		return api.ErrAgree
	}
	for i := range sights {
		if a.contradict(slices.Concat(sights[:i], sights[i+1:])...) {
			return api.ErrAgree
		}
	}
	return api.OK
}

// Sound reports whether nothing contradicts.
func Sound(l api.Ledger, known int) (bool, api.Errno) {
	if e := basic.First(Check(l), basic.CheckDays(known)); e != api.OK {
		return false, e
	}
	a := open(l, known)
	return a.settle() == api.OK, api.OK
}

// double returns the first two receipts that are double.
func (a account) double() (x, y api.Receipt, found bool) {
	for i, x := range a.receipts {
		for _, y := range a.receipts[i+1:] {
			if a.areDouble(x, y) {
				return x, y, true
			}
		}
	}
	return api.Receipt{}, api.Receipt{}, false
}

func (a account) areDouble(x, y api.Receipt) bool {
	if x.Paper != y.Paper {
		return false
	}
	if x.Day > y.Day {
		x, y = y, x
	}
	for _, leaf := range x.Leaves {
		if slices.Contains(y.Leaves, leaf) && !a.backFor(x, leaf, y.Day) {
			return true
		}
	}
	return false
}

// backFor reports whether a leaf of a receipt may be back when it is lent on a later day. A return's earliest day is greater than the receipt's: what is lent on one day twice is not back.
func (a account) backFor(r api.Receipt, leaf, day int) bool {
	i, back := a.returns[slip{r.Source, leaf}]
	return back && a.spans[i].Lo <= day
}

func (a account) contradict(sights ...api.Sight) bool {
	_, sound := a.narrowed(sights)
	return !sound
}

// find returns the sights that count and have these sources, which are strictly increasing; and false if there are others.
func (a account) find(by []int) ([]api.Sight, bool) {
	var found []api.Sight
	for _, s := range a.sights {
		if len(found) < len(by) && by[len(found)] == s.Source {
			found = append(found, s)
		}
	}
	return found, len(found) == len(by)
}
