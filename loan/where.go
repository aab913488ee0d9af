package loan

import (
	"slices"

	"parvise/api"
	"parvise/basic"
)

// Telling returns the sources of the returns that tell.
func Telling(l api.Ledger, known int) ([]int, api.Errno) {
	if e := basic.First(Check(l), basic.CheckDays(known)); e != api.OK {
		return nil, e
	}
	var sources []int
	for i, tells := range open(l, known).tells {
		if tells {
			sources = append(sources, l.Returns[i].Source)
		}
	}
	return sources, api.OK
}

// Days returns the days on which a return may have been.
func Days(l api.Ledger, source, known int) (api.Range, api.Errno) {
	a, i, e := returned(l, source, known)
	if e != api.OK {
		return api.Range{}, e
	}
	return a.spans[i].Range, api.OK
}

// Where returns with whom a leaf may be at the end of a day; 0 is the chest.
func Where(l api.Ledger, f api.Folio, day, known int) ([]int, api.Errno) {
	if e := basic.First(Check(l), basic.CheckDays(day, known), checkFolio(l, f)); e != api.OK {
		return nil, e
	}
	a := open(l, known)
	if e := a.settle(); e != api.OK {
		return nil, e
	}
	return a.where(f, day), api.OK
}

// Whole tells whether all leaves of a paper are in the chest at the end of a day.
func Whole(l api.Ledger, paper, day, known int) (int, api.Errno) {
	if e := basic.First(Check(l), basic.CheckDays(day, known), checkPaper(l, paper)); e != api.OK {
		return 0, e
	}
	a := open(l, known)
	if e := a.settle(); e != api.OK {
		return 0, e
	}
	can, cannot := true, false
	for i := range leaves(l, paper) {
		persons := a.where(api.Folio{Paper: paper, Leaf: i + 1}, day)
		can = can && slices.Contains(persons, 0)
		cannot = cannot || !isOnly(persons, 0)
	}
	return basic.Answer(can, cannot), api.OK
}

// Lies tells whether a receipt lies in the chest at the end of a day.
func Lies(l api.Ledger, source, day, known int) (int, api.Errno) {
	if e := basic.First(Check(l), basic.CheckDays(day, known)); e != api.OK {
		return 0, e
	}
	a := open(l, known)
	r, found := a.receipt(source)
	if !found {
		return 0, api.ErrNone
	}
	if e := a.settle(); e != api.OK {
		return 0, e
	}
	if r.Day > day {
		return api.No, api.OK
	}
	can, cannot := false, true
	for _, leaf := range r.Leaves {
		i, back := a.returns[slip{r.Source, leaf}]
		can = can || !back || a.spans[i].Hi > day
		cannot = cannot && back && a.spans[i].Lo <= day
	}
	return basic.Answer(can, cannot), api.OK
}

// Has returns the leaves that a person surely has at the end of a day.
func Has(l api.Ledger, person, day, known int) ([]api.Folio, api.Errno) {
	return leavesOf(l, person, day, known, isOnly)
}

// May returns the leaves that a person may have at the end of a day.
func May(l api.Ledger, person, day, known int) ([]api.Folio, api.Errno) {
	return leavesOf(l, person, day, known, slices.Contains)
}

// leavesOf returns the leaves of which the persons who may have them are such ones for a person.
func leavesOf(l api.Ledger, person, day, known int, such func(persons []int, person int) bool) ([]api.Folio, api.Errno) {
	if e := basic.First(Check(l), checkPerson(person), basic.CheckDays(day, known)); e != api.OK {
		return nil, e
	}
	a := open(l, known)
	if e := a.settle(); e != api.OK {
		return nil, e
	}
	var found []api.Folio
	for _, f := range folios(l) {
		if such(a.where(f, day), person) {
			found = append(found, f)
		}
	}
	return found, api.OK
}

// returned settles a ledger, and returns the index of its return that tells and has a source.
func returned(l api.Ledger, source, known int) (account, int, api.Errno) {
	if e := basic.First(Check(l), basic.CheckDays(known)); e != api.OK {
		return account{}, 0, e
	}
	a := open(l, known)
	i := slices.IndexFunc(l.Returns, func(r api.Return) bool { return r.Source == source })
	if i < 0 || !a.tells[i] {
		return account{}, 0, api.ErrNone
	}
	if e := a.settle(); e != api.OK {
		return account{}, 0, e
	}
	return a, i, api.OK
}

// where returns with whom a leaf may be at the end of a day, rising.
func (a account) where(f api.Folio, day int) []int {
	s := a.stay(f, day)
	switch {
	case s.back < 0 || a.spans[s.back].Lo > day:
		return []int{s.person}
	case a.spans[s.back].Hi <= day:
		return []int{0}
	}
	return []int{0, s.person}
}

func isOnly(l []int, n int) bool { return len(l) == 1 && l[0] == n }
