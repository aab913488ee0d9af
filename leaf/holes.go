package leaf

import (
	"cmp"
	"slices"

	"parvise/api"
	"parvise/basic"
)

// set is a set of worm holes, by bits.
type set int

const everyHole set = 1<<api.MaxWorm - 1

func setOf(holes ...int) set {
	var s set
	for _, hole := range holes {
		s |= 1 << hole
	}
	return s
}

func (s set) has(hole int) bool { return s&setOf(hole) != 0 }

// isApart reports whether two sets have no hole in common.
func (s set) isApart(other set) bool { return s&other == 0 }

// holes returns the holes of a set, rising.
func (s set) holes() []int {
	var l []int
	for hole := range api.MaxWorm {
		if s.has(hole) {
			l = append(l, hole)
		}
	}
	return l
}

// isAhead reports whether a set has fewer holes than another one, or as many and is ahead of it as a list.
func (s set) isAhead(other set) bool {
	holes, others := s.holes(), other.holes()
	return cmp.Or(cmp.Compare(len(holes), len(others)), slices.Compare(holes, others)) < 0
}

// isSet reports whether a number tells of holes by bits.
func isSet(n int) bool { return basic.Within(n, 0, int(everyHole)) }

func isHole(n int) bool { return basic.Within(n, 0, api.MaxWorm-1) }

// Conflict returns the fewest holes with which there is no order.
func Conflict(h api.Heap, paper int) ([]int, api.Errno) {
	l, e := breaks(h, paper)
	if e != api.OK {
		return nil, e
	}
	best := everyHole
	if !clash(l, best) {
		return nil, api.ErrApt
	}
	for some := range everyHole {
		if some.isAhead(best) && clash(l, some) {
			best = some
		}
	}
	return best.holes(), api.OK
}

// CheckConflict reports whether there is no order with some holes, and one without any one of them.
func CheckConflict(h api.Heap, paper int, holes []int) api.Errno {
	l, e := breaks(h, paper)
	if e != api.OK {
		return e
	}
	ok := basic.AreAll(holes, isHole) && basic.AreRising(holes, cmp.Compare) && clash(l, setOf(holes...))
	for _, hole := range holes {
		ok = ok && !clash(l, setOf(holes...)&^setOf(hole))
	}
	return basic.Verdict(ok, api.ErrApt)
}

// breaks returns the holes that each list of a paper's sheets breaks, each set once.
func breaks(h api.Heap, paper int) ([]set, api.Errno) {
	p, e := open(h, paper)
	if e != api.OK {
		return nil, e
	}
	var l []set
	for list := range p.lists() {
		l = append(l, p.broken(list))
	}
	slices.Sort(l)
	return slices.Compact(l), api.OK
}

// clash reports whether there is no order with some holes, by what each list breaks.
func clash(l []set, some set) bool { return !slices.ContainsFunc(l, some.isApart) }
