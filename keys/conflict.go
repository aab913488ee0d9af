package keys

import (
	"parvise/api"
	"parvise/basic"
)

// Consistent reports whether the deeds that count do not contradict each other.
func Consistent(l []api.Deed, known int) (bool, api.Errno) {
	if e := basic.First(Check(l), basic.CheckDays(known)); e != api.OK {
		return false, e
	}
	_, _, found := conflict(counting(l, known))
	return !found, api.OK
}

// Conflict returns the items of two deeds that contradict each other.
func Conflict(l []api.Deed, known int) ([]api.Item, api.Errno) {
	if e := basic.First(Check(l), basic.CheckDays(known)); e != api.OK {
		return nil, e
	}
	earlier, later, found := conflict(counting(l, known))
	if !found {
		return nil, api.ErrEven
	}
	return []api.Item{earlier.At, later.At}, api.OK
}

// CheckConflict reports whether two deeds do.
func CheckConflict(l []api.Deed, known int, by []api.Item) api.Errno {
	if e := basic.First(Check(l), basic.CheckDays(known)); e != api.OK {
		return e
	}
	if len(by) != 2 {
		return api.ErrEven
	}
	count := counting(l, known)
	earlier, later := find(count, by[0]), find(count, by[1])
	if earlier < 0 || later <= earlier || !contradict(count[earlier], count[later]) {
		return api.ErrEven
	}
	return api.OK
}

// When returns the days on which a deed may have been.
func When(l []api.Deed, at api.Item, known int) (api.Range, api.Errno) {
	if e := basic.First(Check(l), basic.CheckDays(known)); e != api.OK {
		return api.Range{}, e
	}
	i := find(counting(l, known), at)
	if i < 0 {
		return api.Range{}, api.ErrNone
	}
	count, e := even(l, known)
	if e != api.OK {
		return api.Range{}, e
	}
	t := threads(count)[nameOf(count[i])]
	n := find(t.deeds, at)
	return api.Range{Lo: t.earliest(n), Hi: t.latest(n)}, api.OK
}

// CheckTrue reports whether true days may be.
func CheckTrue(l []api.Deed, known int, days []int) api.Errno {
	if e := basic.First(Check(l), basic.CheckDays(known)); e != api.OK {
		return e
	}
	if !areTrue(counting(l, known), days) {
		return api.ErrTrue
	}
	return api.OK
}

// even returns the deeds that count, and ErrUneven instead if they contradict each other.
func even(l []api.Deed, known int) ([]api.Deed, api.Errno) {
	count := counting(l, known)
	if _, _, found := conflict(count); found {
		return nil, api.ErrUneven
	}
	return count, api.OK
}

// conflict returns the first two deeds that contradict each other. It finds some whenever there are no true days: the earliest day of a deed that is too late is the Lo of a single one ahead of it.
func conflict(count []api.Deed) (earlier, later api.Deed, found bool) {
	for i, a := range count {
		for _, b := range count[i+1:] {
			if contradict(a, b) {
				return a, b, true
			}
		}
	}
	return api.Deed{}, api.Deed{}, false
}

func contradict(earlier, later api.Deed) bool {
	return nameOf(earlier) == nameOf(later) && earlier.Day.Lo > later.Day.Hi
}

// find returns the index of the deed with an item, and -1 if there is none.
func find(l []api.Deed, at api.Item) int {
	for i, d := range l {
		if d.At == at {
			return i
		}
	}
	return -1
}

// areTrue reports whether days are true days of the deeds that count.
func areTrue(count []api.Deed, days []int) bool {
	if len(days) != len(count) {
		return false
	}
	last := map[name]int{}
	for i, d := range count {
		n := nameOf(d)
		if !basic.Within(days[i], d.Day.Lo, d.Day.Hi) || days[i] < last[n] {
			return false
		}
		last[n] = days[i]
	}
	return true
}
