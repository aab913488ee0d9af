package shelf_test

import (
	"cmp"
	"fmt"
	"math/rand/v2"
	"slices"
	"testing"

	"parvise/api"
	"parvise/shelf"
)

// truth is what the chapter's terms say of an inventory, word by word, with all its arrangements.
type truth struct {
	n            api.Inventory
	known        int
	arrangements [][]int
}

func truthOf(n api.Inventory, known int) *truth {
	o := &truth{n: n, known: known}
	o.try(nil)
	return o
}

// counting returns the glimpses that count.
func (o *truth) counting() []api.Glimpse {
	var l []api.Glimpse
	for _, g := range o.n.Glimpses {
		if g.Known <= o.known && (g.Until == 0 || g.Until > o.known) {
			l = append(l, g)
		}
	}
	return l
}

func (o *truth) fits(paper, hole int) bool {
	for _, g := range o.counting() {
		if g.Hole == hole && !slices.Contains(g.Marks, paper) {
			return false
		}
	}
	return true
}

func (o *truth) filled(hole int) bool {
	return slices.ContainsFunc(o.counting(), func(g api.Glimpse) bool { return g.Hole == hole && len(g.Marks) > 0 })
}

// try adds all arrangements that begin with some holes.
func (o *truth) try(begun []int) {
	if len(begun) == len(o.n.Papers) {
		if o.isArrangement(begun) {
			o.arrangements = append(o.arrangements, slices.Clone(begun))
		}
		return
	}
	for _, hole := range upTo(o.n.Holes) {
		if !slices.Contains(begun, hole) {
			o.try(append(begun, hole))
		}
	}
}

func (o *truth) isArrangement(holes []int) bool {
	if len(holes) != len(o.n.Papers) {
		return false
	}
	for i, hole := range holes {
		if hole < 1 || hole > o.n.Holes || slices.Contains(holes[:i], hole) || !o.fits(o.n.Papers[i], hole) {
			return false
		}
	}
	for _, hole := range upTo(o.n.Holes) {
		if o.filled(hole) && !slices.Contains(holes, hole) {
			return false
		}
	}
	return true
}

// alone is the truth by some of the glimpses that count.
func (o *truth) alone(glimpses []api.Glimpse) *truth {
	n := o.n
	n.Glimpses = glimpses
	return truthOf(n, o.known)
}

func (o *truth) sound() bool { return len(o.arrangements) > 0 }

// answer tells whether something is so in all arrangements, in none, or in some.
func (o *truth) answer(is func(holes []int) bool) int {
	n := 0
	for _, holes := range o.arrangements {
		if is(holes) {
			n++
		}
	}
	switch n {
	case 0:
		return api.No
	case len(o.arrangements):
		return api.Yes
	}
	return api.Maybe
}

// where returns the holes of the i-th paper.
func (o *truth) where(i int) []int {
	var l []int
	for _, holes := range o.arrangements {
		l = append(l, holes[i])
	}
	slices.Sort(l)
	return slices.Compact(l)
}

func (o *truth) who(hole int) []int {
	var l []int
	for i, paper := range o.n.Papers {
		if slices.Contains(o.where(i), hole) {
			l = append(l, paper)
		}
	}
	return l
}

// clash leaves glimpses out, one after the other.
func (o *truth) clash() []int {
	left := o.counting()
	for i := len(left) - 1; i >= 0; i-- {
		if others := slices.Delete(slices.Clone(left), i, i+1); !o.alone(others).sound() {
			left = others
		}
	}
	var by []int
	for _, g := range left {
		by = append(by, g.Source)
	}
	return by
}

// contradict reports whether the glimpses with these sources contradict each other.
func (o *truth) contradict(by []int) bool {
	var glimpses []api.Glimpse
	for _, g := range o.counting() {
		if slices.Contains(by, g.Source) {
			glimpses = append(glimpses, g)
		}
	}
	if len(glimpses) != len(by) || o.alone(glimpses).sound() {
		return false
	}
	for i := range glimpses {
		if !o.alone(slices.Delete(slices.Clone(glimpses), i, i+1)).sound() {
			return false
		}
	}
	return true
}

// isCram reports whether papers, or holes, of a strictly increasing list show that there is no arrangement.
func (o *truth) isCram(c api.Cram) bool {
	fit := func(papers, holes []int) (fitting, fitted map[int]bool) {
		fitting, fitted = map[int]bool{}, map[int]bool{}
		for _, paper := range papers {
			for _, hole := range holes {
				if o.fits(paper, hole) {
					fitting[paper], fitted[hole] = true, true
				}
			}
		}
		return fitting, fitted
	}
	if !c.OfHoles {
		_, fitted := fit(c.List, upTo(o.n.Holes))
		return len(fitted) < len(c.List)
	}
	for _, hole := range c.List {
		if !o.filled(hole) {
			return false
		}
	}
	fitting, _ := fit(o.n.Papers, c.List)
	return len(fitting) < len(c.List)
}

// tell reports whether holes tell where the i-th paper lies.
func (o *truth) tell(i int, holes []int) bool {
	for _, one := range o.arrangements {
		for _, other := range o.arrangements {
			same := true
			for _, hole := range holes {
				same = same && slices.Index(one, hole) == slices.Index(other, hole)
			}
			if same && one[i] != other[i] {
				return false
			}
		}
	}
	return true
}

// again returns the first fewest holes that tell where the i-th paper lies.
func (o *truth) again(i int) []int {
	best := upTo(o.n.Holes)
	for _, holes := range subsets(best) {
		fewer := len(holes) < len(best) || len(holes) == len(best) && slices.Compare(holes, best) < 0
		if fewer && o.tell(i, holes) {
			best = holes
		}
	}
	return best
}

// TestP31Truth holds all answers about random inventories against all their arrangements.
func TestP31Truth(t *testing.T) {
	sound, wide := 0, 0
	eachSome(t, 31, 3000, few(), func(r *rand.Rand, n api.Inventory, known int) {
		o := truthOf(n, known)
		checkGlimpses(t, o)
		checkLies(t, o)
		checkMoved(t, o)
		if o.sound() {
			sound++
			if len(o.arrangements) > 2 {
				wide++
			}
		}
	})
	if sound < 1000 || sound > 2500 || wide < 400 {
		t.Errorf("%d inventories are sound, %d have more than two arrangements", sound, wide)
	}
}

// checkGlimpses checks what is about the glimpses alone.
func checkGlimpses(t *testing.T, o *truth) {
	t.Helper()
	expect(t, "Check", results(shelf.Check(o.n)), api.OK)
	expect(t, "Sound", results(shelf.Sound(o.n, o.known)), o.sound(), api.OK)
	for _, hole := range upTo(o.n.Holes) {
		fit := slices.DeleteFunc(slices.Clone(o.n.Papers), func(paper int) bool { return !o.fits(paper, hole) })
		expect(t, fmt.Sprint("Read ", hole), results(shelf.Read(o.n, hole, o.known)), fit, o.filled(hole), api.OK)
	}
	if o.sound() {
		expect(t, "Clash", results(shelf.Clash(o.n, o.known)), none, api.ErrSound)
	} else {
		expect(t, "Clash", results(shelf.Clash(o.n, o.known)), o.clash(), api.OK)
	}
	var sources []int
	for _, g := range o.n.Glimpses {
		sources = append(sources, g.Source)
	}
	for _, by := range subsets(sources) {
		want := verdict(!o.sound() && o.contradict(by), api.ErrSound)
		expect(t, fmt.Sprint("CheckClash ", by), results(shelf.CheckClash(o.n, o.known, by)), want)
	}
	for _, c := range crams(o.n) {
		expect(t, fmt.Sprint("CheckCram ", c), results(shelf.CheckCram(o.n, o.known, c)), verdict(o.isCram(c), api.ErrCram))
	}
}

// crams returns all lists of papers and of holes that may be looked at.
func crams(n api.Inventory) []api.Cram {
	var all []api.Cram
	for _, l := range subsets(n.Papers) {
		all = append(all, api.Cram{List: l})
	}
	for _, l := range subsets(upTo(n.Holes)) {
		all = append(all, api.Cram{OfHoles: true, List: l})
	}
	return all
}

// checkLies checks what is about arrangements.
func checkLies(t *testing.T, o *truth) {
	t.Helper()
	e := verdict(o.sound(), api.ErrFalse)
	answer := func(is func(holes []int) bool) int {
		if !o.sound() {
			return 0
		}
		return o.answer(is)
	}
	var sure []api.Spot
	for i, paper := range o.n.Papers {
		where := o.where(i)
		expect(t, fmt.Sprint("Where ", paper), results(shelf.Where(o.n, paper, o.known)), where, e)
		if len(where) == 1 {
			sure = append(sure, api.Spot{Paper: paper, Hole: where[0]})
		}
		for _, hole := range upTo(o.n.Holes) {
			want := answer(func(holes []int) bool { return holes[i] == hole })
			expect(t, fmt.Sprint("Lies ", paper, hole), results(shelf.Lies(o.n, paper, hole, o.known)), want, e)
		}
		again := none
		if o.sound() {
			again = o.again(i)
		}
		expect(t, fmt.Sprint("Again ", paper), results(shelf.Again(o.n, paper, o.known)), again, e)
		for _, holes := range subsets(upTo(o.n.Holes)) {
			want := cmp.Or(e, verdict(o.tell(i, holes), api.ErrAgain))
			expect(t, fmt.Sprint("CheckAgain ", paper, holes), results(shelf.CheckAgain(o.n, paper, o.known, holes)), want)
		}
	}
	expect(t, "Sure", results(shelf.Sure(o.n, o.known)), sure, e)
	for _, hole := range upTo(o.n.Holes) {
		expect(t, fmt.Sprint("Who ", hole), results(shelf.Who(o.n, hole, o.known)), o.who(hole), e)
		want := answer(func(holes []int) bool { return !slices.Contains(holes, hole) })
		expect(t, fmt.Sprint("Empty ", hole), results(shelf.Empty(o.n, hole, o.known)), want, e)
	}
}

// checkMoved checks Moved by the truth of the inventory without a glimpse.
func checkMoved(t *testing.T, o *truth) {
	t.Helper()
	for source := range 2*len(o.n.Glimpses) + 3 {
		others := slices.DeleteFunc(slices.Clone(o.n.Glimpses), func(g api.Glimpse) bool { return g.Source == source })
		got := results(shelf.Moved(o.n, source, o.known))
		if len(others) == len(o.n.Glimpses) {
			expect(t, fmt.Sprint("Moved ", source), got, none, api.ErrNone)
			continue
		}
		without := o.alone(others)
		var moved []int
		for i, paper := range o.n.Papers {
			if o.sound() != without.sound() || !slices.Equal(o.where(i), without.where(i)) {
				moved = append(moved, paper)
			}
		}
		expect(t, fmt.Sprint("Moved ", source), got, moved, api.OK)
	}
}

// TestP31CheckLaid tries lists of holes, most of them near an arrangement.
func TestP31CheckLaid(t *testing.T) {
	right := 0
	eachSome(t, 32, 2000, few(), func(r *rand.Rand, n api.Inventory, known int) {
		o := truthOf(n, known)
		for range 20 {
			holes := r.Perm(n.Holes)[:len(n.Papers)]
			if o.sound() {
				copy(holes, o.arrangements[r.IntN(len(o.arrangements))])
			}
			if len(holes) > 0 && r.IntN(2) == 0 {
				holes[r.IntN(len(holes))] = r.IntN(n.Holes+3) - 1
			}
			if r.IntN(9) == 0 {
				holes = append(holes, n.Holes)
			}
			is := o.isArrangement(holes)
			if is {
				right++
			}
			expect(t, fmt.Sprint("CheckLaid ", holes), results(shelf.CheckLaid(n, known, holes)), verdict(is, api.ErrLaid))
		}
	})
	if right < 8000 || right > 32000 {
		t.Errorf("%d lists are arrangements", right)
	}
}
