// Package keys is layer 1: who holds the keys of the chest's three locks, in whose hands they are, who is a warden in office, and whether an opening by some persons was lawful (shared/doc/01-keys.md).
package keys

import (
	"cmp"
	"maps"
	"slices"

	"parvise/api"
	"parvise/basic"
)

// CheckDeed reports whether a deed is valid.
func CheckDeed(d api.Deed) api.Errno {
	return basic.Verdict(basic.IsItem(d.At) && validSubject(d) && validDays(d), api.ErrDeed)
}

// Check reports whether deeds are valid.
func Check(l []api.Deed) api.Errno {
	if len(l) > api.MaxDeeds {
		return api.ErrDeeds
	}
	for i, d := range l {
		if CheckDeed(d) != api.OK || i > 0 && byItem(l[i-1], d) >= 0 {
			return api.ErrDeeds
		}
	}
	return api.OK
}

// Add returns deeds with one more.
func Add(l []api.Deed, d api.Deed) ([]api.Deed, api.Errno) {
	return Join(l, []api.Deed{d})
}

// Join returns deeds with more.
func Join(l, more []api.Deed) ([]api.Deed, api.Errno) {
	if e := Check(l); e != api.OK {
		return nil, e
	}
	all := map[api.Item]api.Deed{}
	for _, d := range l {
		all[d.At] = d
	}
	for _, d := range more {
		if e := CheckDeed(d); e != api.OK {
			return nil, e
		}
		if other, taken := all[d.At]; taken && other != d {
			return nil, api.ErrSame
		}
		all[d.At] = d
	}
	// Only now: a deed with an error may stand behind the one that is too many.
	if len(all) > api.MaxDeeds {
		return nil, api.ErrLong
	}
	return slices.SortedFunc(maps.Values(all), byItem), api.OK
}

// Dates returns the days on which something becomes known, or ends.
func Dates(l []api.Deed) ([]int, api.Errno) {
	if e := Check(l); e != api.OK {
		return nil, e
	}
	return basic.Dates(l, func(d api.Deed) (int, int) { return d.Known, d.Until }), api.OK
}

// validSubject reports whether a deed names the lock and the person that its kind needs, and no other.
func validSubject(d api.Deed) bool {
	switch d.Kind {
	case api.DeSworn, api.DeLeft:
		return d.Lock == 0 && basic.IsPerson(d.Person)
	case api.DeGiven, api.DeLent:
		return basic.Within(d.Lock, 1, api.MaxLocks) && basic.IsPerson(d.Person)
	case api.DeBack, api.DeLost:
		return basic.Within(d.Lock, 1, api.MaxLocks) && d.Person == 0
	}
	return false
}

func validDays(d api.Deed) bool {
	return basic.AreDays(d.Day) && basic.AreTimes(d.Known, d.Until)
}

// byItem orders deeds by their items.
func byItem(a, b api.Deed) int { return basic.CompareItems(a.At, b.At) }

// insert puts a number at its place in a rising list, unless it is there.
func insert[N cmp.Ordered](l []N, n N) []N {
	at, there := slices.BinarySearch(l, n)
	if there {
		return l
	}
	return slices.Insert(l, at, n)
}

func checkLock(lock int) api.Errno {
	return basic.Verdict(basic.Within(lock, 1, api.MaxLocks), api.ErrLock)
}

func checkPerson(person int) api.Errno {
	return basic.Verdict(basic.IsPerson(person), api.ErrPersons)
}

func checkPersons(l []int) api.Errno {
	if len(l) > api.MaxOpeners {
		return api.ErrPersons
	}
	for i, person := range l {
		if checkPerson(person) != api.OK || i > 0 && l[i-1] >= person {
			return api.ErrPersons
		}
	}
	return api.OK
}
