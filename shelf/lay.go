package shelf

import (
	"parvise/api"
	"parvise/basic"
)

// Sound reports whether glimpses do not contradict each other.
func Sound(n api.Inventory, known int) (bool, api.Errno) {
	v, e := open(n, known)
	return e == api.OK && v.sound(), e
}

// Cramped returns papers with too few holes, or holes with too few papers.
func Cramped(n api.Inventory, known int) (api.Cram, api.Errno) {
	v, e := open(n, known)
	if e != api.OK {
		return api.Cram{}, e
	}
	_, stuck := v.arrange()
	if stuck == 0 {
		return api.Cram{}, api.ErrSound
	}
	if stuck < single(v.papers) {
		return api.Cram{List: papersOf(n, stuck)}, api.OK
	}
	// With a blank among them, what is stuck fits all holes that are not filled. The holes that are left are filled, and too many for the other papers, since there are just as many things as holes.
	var holes []int
	for i, fits := range v.fits {
		if v.filled[i] && fits&stuck == 0 {
			holes = append(holes, i+1)
		}
	}
	return api.Cram{OfHoles: true, List: holes}, api.OK
}

// CheckCram reports whether papers have too few holes, or holes too few papers.
func CheckCram(n api.Inventory, known int, c api.Cram) api.Errno {
	v, e := open(n, known)
	if e != api.OK {
		return e
	}
	if c.OfHoles {
		ok := areRising(c.List, 1, n.Holes, itself) && v.areCrammed(c.List)
		return basic.Verdict(ok, api.ErrCram)
	}
	papers := setOf(n, c.List)
	ok := areRising(c.List, 1, api.MaxPaper, itself) && papers.count() == len(c.List) && v.fitBy(papers) < len(c.List)
	return basic.Verdict(ok, api.ErrCram)
}

// areCrammed reports whether holes are filled, and fewer papers fit them.
func (v view) areCrammed(holes []int) bool {
	var papers set
	for _, hole := range holes {
		if !v.filled[hole-1] {
			return false
		}
		papers |= v.fits[hole-1]
	}
	return papers.count() < len(holes)
}

// fitBy returns how many holes at least one of some papers fits.
func (v view) fitBy(papers set) int {
	n := 0
	for _, fits := range v.fits {
		if fits&papers != 0 {
			n++
		}
	}
	return n
}

// Lay returns an arrangement: the hole of each paper.
func Lay(n api.Inventory, known int) ([]int, api.Errno) {
	v, e := settle(n, known)
	if e != api.OK {
		return nil, e
	}
	lies, _ := v.arrange()
	holes := make([]int, v.papers)
	for i := range holes {
		holes[i] = lies[i] + 1
	}
	return holes, api.OK
}

// CheckLaid reports whether holes are an arrangement.
func CheckLaid(n api.Inventory, known int, holes []int) api.Errno {
	v, e := open(n, known)
	if e != api.OK {
		return e
	}
	return basic.Verdict(len(holes) == v.papers && v.isLaid(holes), api.ErrLaid)
}

// isLaid reports whether papers may lie in holes, one for each of them.
func (v view) isLaid(holes []int) bool {
	taken := make([]bool, len(v.fits))
	for paper, hole := range holes {
		if !basic.Within(hole, 1, len(v.fits)) || taken[hole-1] || !v.fits[hole-1].has(paper) {
			return false
		}
		taken[hole-1] = true
	}
	for i, filled := range v.filled {
		if filled && !taken[i] {
			return false
		}
	}
	return true
}
