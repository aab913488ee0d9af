package shelf

import (
	"cmp"
	"slices"

	"parvise/api"
	"parvise/basic"
)

// row is what lies in each hole: a paper's index and 1, or 0 for nothing.
type row [api.MaxAgain]int

// Again returns the fewest holes to look at again that tell where a paper lies.
func Again(n api.Inventory, paper, known int) ([]int, api.Errno) {
	rows, e := survey(n, paper, known)
	if e != api.OK {
		return nil, e
	}
	all := single(n.Holes) - 1
	best := holesIn(all)
	for some := range all {
		holes := holesIn(some)
		if cmp.Or(cmp.Compare(len(holes), len(best)), slices.Compare(holes, best)) < 0 && tell(n, rows, paper, holes) {
			best = holes
		}
	}
	return best, api.OK
}

// CheckAgain reports whether holes, looked at again, tell where a paper lies.
func CheckAgain(n api.Inventory, paper, known int, holes []int) api.Errno {
	rows, e := survey(n, paper, known)
	if e != api.OK {
		return e
	}
	return basic.Verdict(areRising(holes, 1, n.Holes, itself) && tell(n, rows, paper, holes), api.ErrAgain)
}

// survey returns all arrangements of a sound inventory with few holes.
func survey(n api.Inventory, paper, known int) ([]row, api.Errno) {
	v, e := settle(n, known, checkPaper(n, paper))
	if e != api.OK {
		return nil, e
	}
	if n.Holes > api.MaxAgain {
		return nil, api.ErrLong
	}
	return v.rows(row{}, 0), api.OK
}

// rows returns the arrangements in which the papers ahead of one lie as they do in r.
func (v view) rows(r row, paper int) []row {
	if paper == v.papers {
		for hole, filled := range v.filled {
			if filled && r[hole] == 0 {
				return nil
			}
		}
		return []row{r}
	}
	var all []row
	for hole := range v.holesOf(paper) {
		if r[hole] == 0 {
			next := r
			next[hole] = paper + 1
			all = append(all, v.rows(next, paper+1)...)
		}
	}
	return all
}

// tell reports whether holes tell where a paper lies.
func tell(n api.Inventory, rows []row, paper int, holes []int) bool {
	lies := map[row]int{}
	for _, r := range rows {
		var seen row
		for _, hole := range holes {
			seen[hole-1] = r[hole-1]
		}
		at := slices.Index(r[:], 1+slices.Index(n.Papers, paper))
		if other, again := lies[seen]; again && other != at {
			return false
		}
		lies[seen] = at
	}
	return true
}

// holesIn returns the holes of a set of their indexes, rising.
func holesIn(s set) []int {
	var holes []int
	for i := range api.MaxAgain {
		if s.has(i) {
			holes = append(holes, i+1)
		}
	}
	return holes
}
