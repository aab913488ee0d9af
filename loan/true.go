package loan

import (
	"slices"

	"parvise/api"
	"parvise/basic"
)

// CheckTrue reports whether days of all returns may be true.
func CheckTrue(l api.Ledger, known int, days []int) api.Errno {
	if e := basic.First(Check(l), basic.CheckDays(known)); e != api.OK {
		return e
	}
	a := open(l, known)
	return a.checkTrue(days)
}

// Placed returns with whom each leaf of a paper truly is at the end of a day.
func Placed(l api.Ledger, days []int, paper, day, known int) ([]int, api.Errno) {
	if e := basic.First(Check(l), basic.CheckDays(day, known), checkPaper(l, paper)); e != api.OK {
		return nil, e
	}
	a := open(l, known)
	if e := a.checkTrue(days); e != api.OK {
		return nil, e
	}
	persons := make([]int, leaves(l, paper))
	for i := range persons {
		s := a.stay(api.Folio{Paper: paper, Leaf: i + 1}, day)
		if s.back < 0 || days[s.back] > day {
			persons[i] = s.person
		}
	}
	return persons, api.OK
}

// Attain returns days that may be true, with the first, or the last, day of a return.
func Attain(l api.Ledger, source, known int, last bool) ([]int, api.Errno) {
	a, at, e := returned(l, source, known)
	if e != api.OK {
		return nil, e
	}
	days := make([]int, len(a.spans))
	for i, s := range a.spans {
		days[i] = s.Lo
	}
	if last {
		days[at] = a.spans[at].Hi
	}
	return days, api.OK
}

// Moved returns the leaves of which Where would be something else without what a source says.
func Moved(l api.Ledger, source, day, known int) ([]api.Folio, api.Errno) {
	if e := basic.First(Check(l), basic.CheckDays(day, known)); e != api.OK {
		return nil, e
	}
	if !slices.Contains(sources(l), source) {
		return nil, api.ErrNone
	}
	with, without := open(l, known), open(except(l, source), known)
	e := with.settle()
	if e != without.settle() {
		return folios(l), api.OK
	}
	if e != api.OK {
		return nil, api.OK
	}
	return slices.DeleteFunc(folios(l), func(f api.Folio) bool {
		return slices.Equal(with.where(f, day), without.where(f, day))
	}), api.OK
}

// checkTrue settles the ledger, and reports whether days are within those of the returns.
func (a *account) checkTrue(days []int) api.Errno {
	if len(days) != len(a.spans) || a.settle() != api.OK {
		return api.ErrTrueDay
	}
	for i, s := range a.spans {
		if !basic.Within(days[i], s.Lo, s.Hi) {
			return api.ErrTrueDay
		}
	}
	return api.OK
}

// except returns a ledger without what has a source.
func except(l api.Ledger, source int) api.Ledger {
	l = copied(l)
	l.Receipts = slices.DeleteFunc(l.Receipts, func(r api.Receipt) bool { return r.Source == source })
	l.Returns = slices.DeleteFunc(l.Returns, func(r api.Return) bool { return r.Source == source })
	l.Sights = slices.DeleteFunc(l.Sights, func(s api.Sight) bool { return s.Source == source })
	return l
}
