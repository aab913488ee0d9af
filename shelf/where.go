package shelf

import (
	"slices"

	"parvise/api"
	"parvise/basic"
)

// Lies answers whether a paper lies in a hole.
func Lies(n api.Inventory, paper, hole, known int) (int, api.Errno) {
	v, e := settle(n, known, checkPaper(n, paper), checkHole(n, hole))
	if e != api.OK {
		return 0, e
	}
	holes := v.where(slices.Index(n.Papers, paper))
	elsewhere := slices.ContainsFunc(holes, func(other int) bool { return other != hole })
	return basic.Answer(slices.Contains(holes, hole), elsewhere), api.OK
}

// Where returns the holes in which a paper may lie.
func Where(n api.Inventory, paper, known int) ([]int, api.Errno) {
	v, e := settle(n, known, checkPaper(n, paper))
	if e != api.OK {
		return nil, e
	}
	return v.where(slices.Index(n.Papers, paper)), api.OK
}

// Who returns the papers that may lie in a hole.
func Who(n api.Inventory, hole, known int) ([]int, api.Errno) {
	v, e := settle(n, known, checkHole(n, hole))
	if e != api.OK {
		return nil, e
	}
	return papersOf(n, v.who(hole)), api.OK
}

// Empty answers whether a hole is empty.
func Empty(n api.Inventory, hole, known int) (int, api.Errno) {
	v, e := settle(n, known, checkHole(n, hole))
	if e != api.OK {
		return 0, e
	}
	return basic.Answer(v.with(hole-1, 0).sound(), v.who(hole) != 0), api.OK
}

// Sure returns the papers whose holes are sure.
func Sure(n api.Inventory, known int) ([]api.Spot, api.Errno) {
	v, e := settle(n, known)
	if e != api.OK {
		return nil, e
	}
	var sure []api.Spot
	for i, paper := range n.Papers {
		if holes := v.where(i); len(holes) == 1 {
			sure = append(sure, api.Spot{Paper: paper, Hole: holes[0]})
		}
	}
	return sure, api.OK
}

// Moved returns the papers that may lie in other holes without a glimpse.
func Moved(n api.Inventory, source, known int) ([]int, api.Errno) {
	with, e := open(n, known)
	if e := basic.First(e, checkSource(n, source)); e != api.OK {
		return nil, e
	}
	without := look(n, slices.DeleteFunc(counting(n, known), isFrom(source)))
	// Where has an error just where there are no holes, so that lists alone tell of errors, too.
	var moved []int
	for i, paper := range n.Papers {
		if !slices.Equal(with.where(i), without.where(i)) {
			moved = append(moved, paper)
		}
	}
	return moved, api.OK
}

// where returns the holes in which a paper lies in some arrangement, rising: none if there is no arrangement.
func (v view) where(paper int) []int {
	var holes []int
	for hole := range v.holesOf(paper) {
		if v.may(paper, hole) {
			holes = append(holes, hole+1)
		}
	}
	return holes
}

// who returns the papers that lie in a hole in some arrangement.
func (v view) who(hole int) set {
	var papers set
	for i := range v.papers {
		if v.may(i, hole-1) {
			papers |= single(i)
		}
	}
	return papers
}

// may reports whether a paper lies in a hole in some arrangement.
func (v view) may(paper, hole int) bool { return v.with(hole, single(paper)).sound() }
