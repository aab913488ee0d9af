package shelf

import (
	"slices"

	"parvise/api"
	"parvise/basic"
)

// Clash returns the sources of glimpses that contradict each other.
func Clash(n api.Inventory, known int) ([]int, api.Errno) {
	v, e := open(n, known)
	if e != api.OK {
		return nil, e
	}
	if v.sound() {
		return nil, api.ErrSound
	}
	left := counting(n, known)
	for i := len(left) - 1; i >= 0; i-- {
		others := besides(left, i)
		if !look(n, others).sound() {
			left = others
		}
	}
	var sources []int
	for _, g := range left {
		sources = append(sources, g.Source)
	}
	return sources, api.OK
}

// CheckClash reports whether glimpses contradict each other.
func CheckClash(n api.Inventory, known int, by []int) api.Errno {
	if e := basic.First(Check(n), basic.CheckDays(known)); e != api.OK {
		return e
	}
	glimpses := slices.DeleteFunc(counting(n, known), func(g api.Glimpse) bool { return !slices.Contains(by, g.Source) })
	ok := areRising(by, 1, api.MaxSource, itself) && len(glimpses) == len(by) && !look(n, glimpses).sound()
	for i := range glimpses {
		ok = ok && look(n, besides(glimpses, i)).sound()
	}
	return basic.Verdict(ok, api.ErrSound)
}

// besides returns glimpses without the i-th one.
func besides(glimpses []api.Glimpse, i int) []api.Glimpse {
	return slices.Concat(glimpses[:i], glimpses[i+1:])
}
