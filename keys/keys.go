// Package keys is layer 1: who holds the keys of the chest's three locks, in whose hands they are, who is a warden in office, and whether an opening by some persons was lawful (shared/doc/01-keys.md).
package keys

import (
	"cmp"
	"maps"
	"slices"

	"parvise/api"
)

// CheckDeed reports whether a deed is valid.
func CheckDeed(d api.Deed) api.Errno {
	if validItem(d.At) && validSubject(d) && validDays(d) {
		return api.OK
	}
	return api.ErrDeed
}

// Check reports whether deeds are valid.
func Check(l []api.Deed) api.Errno {
	if len(l) > api.MaxDeeds {
		return api.ErrDeeds
	}
	for i, d := range l {
		if CheckDeed(d) != api.OK || i > 0 && byItem(l[i-1], d) >= 0 {
			return api.ErrDeeds
		}
	}
	return api.OK
}

// Add returns deeds with one more.
func Add(l []api.Deed, d api.Deed) ([]api.Deed, api.Errno) {
	return Join(l, []api.Deed{d})
}

// Join returns deeds with more.
func Join(l, more []api.Deed) ([]api.Deed, api.Errno) {
	if e := Check(l); e != api.OK {
		return nil, e
	}
	all := map[api.Item]api.Deed{}
	for _, d := range l {
		all[d.At] = d
	}
	for _, d := range more {
		if e := CheckDeed(d); e != api.OK {
			return nil, e
		}
		if other, taken := all[d.At]; taken && other != d {
			return nil, api.ErrSame
		}
		all[d.At] = d
	}
	// Only now: a deed with an error may stand behind the one that is too many.
	if len(all) > api.MaxDeeds {
		return nil, api.ErrLong
	}
	return slices.SortedFunc(maps.Values(all), byItem), api.OK
}

// Dates returns the days on which something becomes known, or ends.
func Dates(l []api.Deed) ([]int, api.Errno) {
	if e := Check(l); e != api.OK {
		return nil, e
	}
	var dates []int
	for _, d := range l {
		dates = insert(dates, d.Known)
		if d.Until != 0 {
			dates = insert(dates, d.Until)
		}
	}
	return dates, api.OK
}

func validItem(at api.Item) bool {
	return within(at.Parish, 0, api.MaxParishes-1) && within(at.No, 0, api.MaxNo)
}

// validSubject reports whether a deed names the lock and the person that its kind needs, and no other.
func validSubject(d api.Deed) bool {
	switch d.Kind {
	case api.DeSworn, api.DeLeft:
		return d.Lock == 0 && within(d.Person, 1, api.MaxPerson)
	case api.DeGiven, api.DeLent:
		return within(d.Lock, 1, api.MaxLocks) && within(d.Person, 1, api.MaxPerson)
	case api.DeBack, api.DeLost:
		return within(d.Lock, 1, api.MaxLocks) && d.Person == 0
	}
	return false
}

func validDays(d api.Deed) bool {
	return within(d.Day.Lo, 0, d.Day.Hi) && d.Day.Hi <= api.MaxDay &&
		within(d.Known, 0, api.MaxDay) &&
		(d.Until == 0 || within(d.Until, d.Known+1, api.MaxDay))
}

func within(n, lo, hi int) bool { return lo <= n && n <= hi }

// byItem orders deeds by their items.
func byItem(a, b api.Deed) int {
	return cmp.Or(cmp.Compare(a.At.Parish, b.At.Parish), cmp.Compare(a.At.No, b.At.No))
}

// insert puts a number at its place in a rising list, unless it is there.
func insert[N cmp.Ordered](l []N, n N) []N {
	at, there := slices.BinarySearch(l, n)
	if there {
		return l
	}
	return slices.Insert(l, at, n)
}

// first returns the first error that is one.
func first(errors ...api.Errno) api.Errno {
	return cmp.Or(errors...)
}

func checkLock(lock int) api.Errno {
	if !within(lock, 1, api.MaxLocks) {
		return api.ErrLock
	}
	return api.OK
}

func checkPerson(person int) api.Errno {
	if !within(person, 1, api.MaxPerson) {
		return api.ErrPersons
	}
	return api.OK
}

func checkPersons(l []int) api.Errno {
	if len(l) > api.MaxOpeners {
		return api.ErrPersons
	}
	for i, person := range l {
		if checkPerson(person) != api.OK || i > 0 && l[i-1] >= person {
			return api.ErrPersons
		}
	}
	return api.OK
}

func checkDays(days ...int) api.Errno {
	for _, day := range days {
		if !within(day, 0, api.MaxDay) {
			return api.ErrDay
		}
	}
	return api.OK
}
