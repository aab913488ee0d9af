package keys

import (
	"parvise/api"
	"parvise/basic"
)

// Holders returns who may hold the key of a lock on a day.
func Holders(l []api.Deed, lock, day, known int) ([]int, api.Errno) {
	return whoMay(l, lock, day, known, func(s state) int { return s.holder })
}

// Hands returns in whose hand it may be.
func Hands(l []api.Deed, lock, day, known int) ([]int, api.Errno) {
	return whoMay(l, lock, day, known, func(s state) int { return s.hand })
}

// Holds answers whether a person holds it.
func Holds(l []api.Deed, lock, person, day, known int) (int, api.Errno) {
	return askLock(l, lock, person, day, known, func(s state) bool { return s.holder == person })
}

// Has answers whether it is in a person's hand.
func Has(l []api.Deed, lock, person, day, known int) (int, api.Errno) {
	return askLock(l, lock, person, day, known, func(s state) bool { return s.hand == person })
}

// InOffice answers whether a person is in office.
func InOffice(l []api.Deed, person, day, known int) (int, api.Errno) {
	if e := basic.First(Check(l), checkPerson(person), basic.CheckDays(day, known)); e != api.OK {
		return 0, e
	}
	count, e := even(l, known)
	if e != api.OK {
		return 0, e
	}
	return threads(count)[name{person: person}].ask(day, inOffice), api.OK
}

// Wardens returns the persons who surely are.
func Wardens(l []api.Deed, day, known int) ([]int, api.Errno) {
	if e := basic.First(Check(l), basic.CheckDays(day, known)); e != api.OK {
		return nil, e
	}
	count, e := even(l, known)
	if e != api.OK {
		return nil, e
	}
	var wardens []int
	for n, t := range threads(count) {
		if n.person != 0 && t.ask(day, inOffice) == api.Yes {
			wardens = insert(wardens, n.person)
		}
	}
	return wardens, api.OK
}

func inOffice(s state) bool { return s.office }

// whoMay returns who it may be of a lock's states on a day.
func whoMay(l []api.Deed, lock, day, known int, who func(state) int) ([]int, api.Errno) {
	if e := basic.First(Check(l), checkLock(lock), basic.CheckDays(day, known)); e != api.OK {
		return nil, e
	}
	count, e := even(l, known)
	if e != api.OK {
		return nil, e
	}
	var persons []int
	for _, s := range threads(count)[name{lock: lock}].states(day) {
		persons = insert(persons, who(s))
	}
	return persons, api.OK
}

// askLock answers whether something is so of a lock and a person on a day.
func askLock(l []api.Deed, lock, person, day, known int, is func(state) bool) (int, api.Errno) {
	if e := basic.First(Check(l), checkLock(lock), checkPerson(person), basic.CheckDays(day, known)); e != api.OK {
		return 0, e
	}
	count, e := even(l, known)
	if e != api.OK {
		return 0, e
	}
	return threads(count)[name{lock: lock}].ask(day, is), api.OK
}
