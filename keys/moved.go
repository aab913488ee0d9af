package keys

import (
	"slices"

	"parvise/api"
	"parvise/basic"
)

// view is deeds, as known on a day.
type view struct {
	deeds []api.Deed
	known int
}

// Changed returns the locks of which something else is known later.
func Changed(l []api.Deed, day, known, later int) ([]int, api.Errno) {
	if e := basic.First(Check(l), basic.CheckDays(day, known, later)); e != api.OK {
		return nil, e
	}
	return view{l, known}.differing(view{l, later}, day), api.OK
}

// Moved returns the locks of which something else would be known without a deed.
func Moved(l []api.Deed, at api.Item, day, known int) ([]int, api.Errno) {
	if e := basic.First(Check(l), basic.CheckDays(day, known)); e != api.OK {
		return nil, e
	}
	i := find(l, at)
	if i < 0 {
		return nil, api.ErrNone
	}
	without := slices.Concat(l[:i], l[i+1:])
	return view{l, known}.differing(view{without, known}, day), api.OK
}

// differing returns the locks that two views tell of differently.
func (v view) differing(other view, day int) []int {
	var differ []int
	for i := range api.MaxLocks {
		if !v.same(other, i+1, day) {
			differ = append(differ, i+1)
		}
	}
	return differ
}

func (v view) same(other view, lock, day int) bool {
	for _, ask := range []func([]api.Deed, int, int, int) ([]int, api.Errno){Holders, Hands} {
		persons, e := ask(v.deeds, lock, day, v.known)
		others, f := ask(other.deeds, lock, day, other.known)
		if e != f || !slices.Equal(persons, others) {
			return false
		}
	}
	return true
}
