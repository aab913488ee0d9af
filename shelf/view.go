package shelf

import (
	"iter"
	"slices"

	"parvise/api"
	"parvise/basic"
)

// view is what glimpses tell of the holes, the first one first.
type view struct {
	papers int    // how many there are
	fits   []set  // the papers that fit each hole
	filled []bool // which holes are filled
}

// set is a set of papers, of things or of holes: the bits of their indexes.
type set uint32

func single(i int) set { return 1 << i }

func (s set) has(i int) bool { return s&single(i) != 0 }

// count returns how many are in the set.
func (s set) count() int {
	n := 0
	for i := range api.MaxHoles {
		if s.has(i) {
			n++
		}
	}
	return n
}

// setOf returns the set of those papers of a list that an inventory has.
func setOf(n api.Inventory, papers []int) set {
	var s set
	for i, paper := range n.Papers {
		if slices.Contains(papers, paper) {
			s |= single(i)
		}
	}
	return s
}

// papersOf returns the papers of a set, rising.
func papersOf(n api.Inventory, s set) []int {
	var papers []int
	for i, paper := range n.Papers {
		if s.has(i) {
			papers = append(papers, paper)
		}
	}
	return papers
}

// counting returns the glimpses that count, as known on a day.
func counting(n api.Inventory, known int) []api.Glimpse {
	var count []api.Glimpse
	for _, g := range n.Glimpses {
		if basic.Counts(g.Known, g.Until, known) {
			count = append(count, g)
		}
	}
	return count
}

// look returns what some glimpses of an inventory tell.
func look(n api.Inventory, glimpses []api.Glimpse) view {
	v := view{papers: len(n.Papers), fits: make([]set, n.Holes), filled: make([]bool, n.Holes)}
	for i := range v.fits {
		v.fits[i] = setOf(n, n.Papers)
	}
	for _, g := range glimpses {
		v.see(g.Hole-1, setOf(n, g.Marks))
	}
	return v
}

// see enters a glimpse of a hole.
func (v view) see(hole int, marks set) {
	v.fits[hole] &= marks
	v.filled[hole] = v.filled[hole] || marks != 0
}

// with returns what is told with one more glimpse.
func (v view) with(hole int, marks set) view {
	v.fits, v.filled = slices.Clone(v.fits), slices.Clone(v.filled)
	v.see(hole, marks)
	return v
}

// open returns what is told as known on a day, or the first error: some others come ahead of that of the day.
func open(n api.Inventory, known int, others ...api.Errno) (view, api.Errno) {
	if e := basic.First(Check(n), basic.First(others...), basic.CheckDays(known)); e != api.OK {
		return view{}, e
	}
	return look(n, counting(n, known)), api.OK
}

// settle is open for those who ask for a sound inventory.
func settle(n api.Inventory, known int, others ...api.Errno) (view, api.Errno) {
	v, e := open(n, known, others...)
	if e == api.OK && !v.sound() {
		return view{}, api.ErrFalse
	}
	return v, e
}

// holesOf yields the holes into which a thing fits: a paper, or, behind the papers, a blank.
func (v view) holesOf(thing int) iter.Seq[int] {
	return func(yield func(int) bool) {
		for hole, fits := range v.fits {
			blank := thing >= v.papers && !v.filled[hole]
			if (blank || fits.has(thing)) && !yield(hole) {
				return
			}
		}
	}
}

// arrange returns the hole of each thing. Things are the papers and, behind them, so many blanks that there are as many things as holes: a blank fits each hole that is not filled, so that each filled hole is left to a paper. If there is no arrangement, stuck are things that fit fewer holes than they are.
func (v view) arrange() (lies map[int]int, stuck set) {
	lies = map[int]int{}
	in := map[int]int{} // the thing of each hole
	var lay func(thing int) bool
	lay = func(thing int) bool {
		stuck |= single(thing)
		for hole := range v.holesOf(thing) {
			other, taken := in[hole]
			if taken && (stuck.has(other) || !lay(other)) {
				continue
			}
			lies[thing], in[hole] = hole, thing
			return true
		}
		return false
	}
	for thing := range v.fits {
		stuck = 0
		if !lay(thing) {
			return nil, stuck
		}
	}
	return lies, 0
}

// sound reports whether there is an arrangement.
func (v view) sound() bool {
	_, stuck := v.arrange()
	return stuck == 0
}
