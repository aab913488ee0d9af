package keys

import (
	"iter"
	"slices"

	"parvise/api"
	"parvise/basic"
)

// scene is a state of each lock, and how many deeds of its thread have happened.
type scene struct {
	done [api.MaxLocks]int
	locks
}

// locks is a state of each lock.
type locks [api.MaxLocks]state

// Lawful answers whether an opening by persons is lawful.
func Lawful(l []api.Deed, persons []int, day, known int) (int, api.Errno) {
	count, e := checkOpening(l, persons, day, known)
	if e != api.OK {
		return 0, e
	}
	_, can := witness(count, persons, day, true)
	_, cannot := witness(count, persons, day, false)
	return basic.Answer(can, cannot), api.OK
}

// True reports whether it is, if days are true.
func True(l []api.Deed, persons, days []int, day, known int) (bool, api.Errno) {
	if e := basic.First(Check(l), checkPersons(persons), basic.CheckDays(day, known)); e != api.OK {
		return false, e
	}
	count := counting(l, known)
	if !areTrue(count, days) {
		return false, api.ErrTrue
	}
	var now locks
	all := threads(count)
	for i := range now {
		now[i] = all[name{lock: i + 1}].truly(days, day)
	}
	for _, s := range now {
		if !all[name{person: s.holder}].truly(days, day).office {
			return false, api.OK
		}
	}
	return now.open(persons), api.OK
}

// Show returns true days with which it is, or is not.
func Show(l []api.Deed, persons []int, day, known int, lawful bool) ([]int, api.Errno) {
	count, e := checkOpening(l, persons, day, known)
	if e != api.OK {
		return nil, e
	}
	done, found := witness(count, persons, day, lawful)
	if !found {
		return nil, api.ErrNone
	}
	days := make([]int, len(count))
	for n, t := range threads(count) {
		if happened, told := done[n]; told {
			t.settle(days, happened)
		} else {
			t.settle(days, len(t.deeds))
		}
	}
	return days, api.OK
}

// Openers returns the fewest persons by whom an opening is surely lawful.
func Openers(l []api.Deed, day, known int) ([]int, api.Errno) {
	count, e := checkOpening(l, nil, day, known)
	if e != api.OK {
		return nil, e
	}
	var persons []int
	all := threads(count)
	for i := range api.MaxLocks {
		for _, s := range all[name{lock: i + 1}].states(day) {
			persons = insert(persons, s.hand)
		}
	}
	// Where nobody may have a key, 0 is among them, and no persons suffice.
	if checkPersons(persons) != api.OK {
		return nil, api.ErrShut
	}
	if _, cannot := witness(count, persons, day, false); cannot {
		return nil, api.ErrShut
	}
	return persons, api.OK
}

// checkOpening returns the deeds that count, or the first error of a question about an opening.
func checkOpening(l []api.Deed, persons []int, day, known int) ([]api.Deed, api.Errno) {
	if e := basic.First(Check(l), checkPersons(persons), basic.CheckDays(day, known)); e != api.OK {
		return nil, e
	}
	return even(l, known)
}

// witness returns how many deeds of threads may have happened on a day so that an opening is lawful, or is not, and whether it may be so at all. Of the threads that it does not name any number may have.
func witness(count []api.Deed, persons []int, day int, lawful bool) (map[name]int, bool) {
	all := threads(count)
	office := offices(all, day, lawful)
	for s := range scenes(all, day) {
		so := 0
		for _, lock := range s.locks {
			if _, may := office[lock.holder]; may {
				so++
			}
		}
		open := s.open(persons)
		if lawful && open && so == api.MaxLocks || !lawful && (!open || so > 0) {
			return s.happened(office), true
		}
	}
	return nil, false
}

// offices returns how many deeds of a person's thread may have happened on a day, if he is in office, or is not; with no entry for a person of whom that may not be.
func offices(all map[name]thread, day int, in bool) map[int]int {
	done := map[int]int{}
	for person := range api.MaxPerson + 1 {
		for n, s := range all[name{person: person}].states(day) {
			if s.office == in {
				done[person] = n
			}
		}
	}
	return done
}

// scenes yields the states of the three locks that may be together on a day: all, since no deed is of two threads.
func scenes(all map[name]thread, day int) iter.Seq[scene] {
	return func(yield func(scene) bool) {
		for i, one := range all[name{lock: 1}].states(day) {
			for j, two := range all[name{lock: 2}].states(day) {
				for k, three := range all[name{lock: 3}].states(day) {
					if !yield(scene{[api.MaxLocks]int{i, j, k}, locks{one, two, three}}) {
						return
					}
				}
			}
		}
	}
}

// happened returns how many deeds have happened in a scene: of the locks, and of the holders' offices.
func (s scene) happened(office map[int]int) map[name]int {
	done := map[name]int{}
	for i, lock := range s.locks {
		done[name{lock: i + 1}] = s.done[i]
		if n, may := office[lock.holder]; may {
			done[name{person: lock.holder}] = n
		}
	}
	return done
}

// open reports whether persons have all keys, and they are those of three different persons. (A key that somebody has is somebody's.)
func (l locks) open(persons []int) bool {
	for i, s := range l {
		if !slices.Contains(persons, s.hand) {
			return false
		}
		for _, other := range l[:i] {
			if other.holder == s.holder {
				return false
			}
		}
	}
	return true
}
