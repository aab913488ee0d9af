package chest

import (
	"cmp"
	"slices"

	"parvise/api"
	"parvise/basic"
)

// Clashes returns the pairs of openings that contradict each other.
func Clashes(l []api.Opening, known int) ([]api.Pair, api.Errno) {
	v, e := open(l, known)
	if e != api.OK {
		return nil, e
	}
	return slices.Collect(v.clashes()), api.OK
}

// Fewest returns how many openings at least are false.
func Fewest(l []api.Opening, known int) (int, api.Errno) {
	v, e := open(l, known)
	return v.fewest, e
}

// False returns the fewest openings without which none contradict each other: of all such lists the first one.
func False(l []api.Opening, known int) ([]int, api.Errno) {
	v, e := open(l, known)
	if e != api.OK {
		return nil, e
	}
	var by []int
	for _, o := range v.openings {
		if more := slices.Concat(by, []int{o.Source}); v.mayAllBeFalse(more...) {
			by = more
		}
	}
	return by, api.OK
}

// CheckFalse reports whether without openings none contradict each other.
func CheckFalse(l []api.Opening, known int, by []int) api.Errno {
	v, e := open(l, known)
	if e != api.OK {
		return e
	}
	ok := basic.AreRising(by, cmp.Compare) && basic.AreAll(by, v.has)
	for pair := range v.clashes() {
		ok = ok && (slices.Contains(by, pair.First) || slices.Contains(by, pair.Second))
	}
	return basic.Verdict(ok, api.ErrCover)
}

// Pairs returns as many pairs that contradict each other as openings are false at least, no opening twice.
func Pairs(l []api.Opening, known int) ([]api.Pair, api.Errno) {
	v, e := open(l, known)
	if e != api.OK {
		return nil, e
	}
	var pairs []api.Pair
	for partner, source := range v.pairs() {
		pairs = append(pairs, api.Pair{First: source, Second: partner})
	}
	slices.SortFunc(pairs, byFirst)
	return pairs, api.OK
}

// CheckPairs reports whether pairs contradict each other, no opening twice.
func CheckPairs(l []api.Opening, known int, pairs []api.Pair) api.Errno {
	v, e := open(l, known)
	if e != api.OK {
		return e
	}
	clashes := slices.Collect(v.clashes())
	ok := basic.AreRising(pairs, byFirst) &&
		basic.AreAll(pairs, func(p api.Pair) bool { return slices.Contains(clashes, p) }) &&
		basic.AreRising(slices.SortedFunc(slices.Values(pairs), bySecond), bySecond)
	return basic.Verdict(ok, api.ErrPairs)
}

func byFirst(a, b api.Pair) int { return cmp.Compare(a.First, b.First) }

func bySecond(a, b api.Pair) int { return cmp.Compare(a.Second, b.Second) }
