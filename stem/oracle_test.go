package stem_test

import (
	"cmp"
	"fmt"
	"math/rand/v2"
	"slices"
	"testing"

	"parvise/api"
	"parvise/stem"
)

// truth is what the chapter's terms say of a stem, word by word, with all its pedigrees.
type truth struct {
	s         api.Stem
	ids       []int
	pedigrees [][]int
	fewest    int
	least     [][]int // in order
}

func truthOf(s api.Stem) *truth {
	o := &truth{s: s, ids: ids(s)}
	o.try(nil)
	for i, p := range o.pedigrees {
		cost := o.costOf(p)
		if i == 0 || cost < o.fewest {
			o.fewest, o.least = cost, nil
		}
		if cost == o.fewest {
			o.least = append(o.least, p)
		}
	}
	return o
}

// try adds all pedigrees that begin with some Ids, in order.
func (o *truth) try(begun []int) {
	if len(begun) == len(o.s.Copies) {
		if o.isPedigree(begun) {
			o.pedigrees = append(o.pedigrees, slices.Clone(begun))
		}
		return
	}
	if !slices.Contains(begun, 0) {
		o.try(append(begun, 0))
	}
	for _, from := range o.ids {
		if to := o.ids[len(begun)]; from != to && !o.never(from, to) {
			o.try(append(begun, from))
		}
	}
}

func (o *truth) never(from, to int) bool { return slices.Contains(o.s.Never, never(from, to)) }

func (o *truth) isPedigree(p []int) bool {
	roots := 0
	for i, from := range p {
		if i >= len(o.s.Copies) || from != 0 && !slices.Contains(o.ids, from) || o.never(from, o.ids[i]) {
			return false
		}
		if from == 0 {
			roots++
		}
	}
	if len(p) != len(o.s.Copies) || roots != 1 {
		return false
	}
	for _, at := range p {
		for range p {
			if at != 0 {
				at = p[slices.Index(o.ids, at)]
			}
		}
		if at != 0 {
			return false
		}
	}
	return true
}

func (o *truth) copyOf(id int) api.Copy { return o.s.Copies[slices.Index(o.ids, id)] }

// cost returns what a copy costs that is copied from another one.
func (o *truth) cost(from, to int) int {
	cost := 0
	for place, old := range o.copyOf(from).Words {
		word := o.copyOf(to).Words[place]
		if word == old {
			continue
		}
		if word == 0 {
			cost += o.s.Costs.Lose
		} else if old == 0 {
			cost += o.s.Costs.Gain
		} else if word == old+1 || word == old-1 {
			cost += o.s.Costs.Like
		} else {
			cost += o.s.Costs.Turn
		}
	}
	return cost
}

func (o *truth) costOf(p []int) int {
	cost := 0
	for i, from := range p {
		if from != 0 {
			cost += o.cost(from, o.ids[i])
		}
	}
	return cost
}

func (o *truth) slips(p []int) []api.Slip {
	var l []api.Slip
	for i, to := range o.s.Copies {
		for place, word := range to.Words {
			if p[i] == 0 {
				continue
			}
			if old := o.copyOf(p[i]).Words[place]; old != word {
				l = append(l, api.Slip{Copy: to.Id, Place: place, From: old, To: word})
			}
		}
	}
	return l
}

// show reports whether weights show that no pedigree costs less than a number.
func (o *truth) show(l []api.Weight, cost int) bool {
	if len(l) > 40 || cost < 0 || cost > 100000 {
		return false
	}
	sum := func(has func(set int) bool) int {
		sum := 0
		for _, w := range l {
			if has(w.Set) {
				sum += w.Weight
			}
		}
		return sum
	}
	for i, w := range l {
		if w.Set < 1 || w.Set >= 1<<len(o.s.Copies) || w.Weight < 1 || w.Weight > 100000 || i > 0 && l[i-1].Set >= w.Set {
			return false
		}
	}
	for i, to := range o.s.Copies {
		if sum(func(set int) bool { return set>>i%2 == 1 }) > 100000 {
			return false
		}
		for j, from := range o.s.Copies {
			into := sum(func(set int) bool { return set>>i%2 == 1 && set>>j%2 == 0 })
			if i != j && !o.never(from.Id, to.Id) && into > o.cost(from.Id, to.Id) {
				return false
			}
		}
	}
	return sum(func(int) bool { return true }) >= cost+100000
}

// parent tells whether a copy is copied from another one in all least pedigrees, in none, or in some.
func (o *truth) parent(from, to int) int {
	n := 0
	for _, p := range o.least {
		if p[slices.Index(o.ids, to)] == from {
			n++
		}
	}
	switch n {
	case 0:
		return api.No
	case len(o.least):
		return api.Yes
	}
	return api.Maybe
}

func (o *truth) roots() []int {
	var l []int
	for _, p := range o.least {
		l = append(l, o.ids[slices.Index(p, 0)])
	}
	slices.Sort(l)
	return slices.Compact(l)
}

func (o *truth) words(place int) []int {
	var l []int
	for _, root := range o.roots() {
		l = append(l, o.copyOf(root).Words[place])
	}
	slices.Sort(l)
	return slices.Compact(l)
}

func (o *truth) places() int {
	for _, c := range o.s.Copies {
		return len(c.Words)
	}
	return 0
}

func (o *truth) agreed() []int {
	var l []int
	for place := range o.places() {
		words := o.words(place)
		if len(words) > 1 {
			words = []int{-1}
		}
		l = append(l, words[0])
	}
	return l
}

// without returns the truth of the stem without a copy.
func (o *truth) without(id int) *truth {
	s := api.Stem{Costs: o.s.Costs}
	for _, c := range o.s.Copies {
		if c.Id != id {
			s.Copies = append(s.Copies, c)
		}
	}
	for _, n := range o.s.Never {
		if n.From != id && n.To != id {
			s.Never = append(s.Never, n)
		}
	}
	return truthOf(s)
}

func (o *truth) moved() []int {
	var l []int
	for _, id := range o.ids {
		less := o.without(id)
		if len(less.least) == 0 || !slices.Equal(less.agreed(), o.agreed()) {
			l = append(l, id)
		}
	}
	return l
}

// TestP41Truth holds all answers about random stems against all their pedigrees.
func TestP41Truth(t *testing.T) {
	whole, wide := 0, 0
	eachSome(t, 41, 2000, 5, func(r *rand.Rand, s api.Stem) {
		o := truthOf(s)
		checkAnswers(t, o)
		checkCosts(t, r, o)
		if len(o.least) > 0 {
			whole++
		}
		if len(o.least) > 1 && len(o.roots()) > 1 {
			wide++
		}
	})
	if whole < 1000 || whole > 1800 || wide < 400 {
		t.Errorf("%d stems have a pedigree, %d have least ones with several roots", whole, wide)
	}
}

// TestP41Seven is TestP41Truth for stems with as many copies as may be.
func TestP41Seven(t *testing.T) {
	r := rand.New(rand.NewPCG(42, 4))
	for many := 0; many < 8; {
		s := someStem(r, api.MaxCopies)
		if len(s.Copies) < api.MaxCopies {
			continue
		}
		many++
		checkAnswers(t, truthOf(s))
		if t.Failed() {
			t.Fatalf("stem %+v", s)
		}
	}
}

// checkAnswers checks what is about least pedigrees.
func checkAnswers(t *testing.T, o *truth) {
	t.Helper()
	e := verdict(len(o.least) > 0, api.ErrApart)
	expect(t, "Check", results(stem.Check(o.s)), api.OK)
	expect(t, "Fewest", results(stem.Fewest(o.s)), o.fewest, e)
	expect(t, "Pedigree", results(stem.Pedigree(o.s)), slices.Concat(o.least[:min(1, len(o.least))]...), e)
	expect(t, "Roots", results(stem.Roots(o.s)), o.roots(), e)
	for place := range o.places() {
		expect(t, fmt.Sprint("Words ", place), results(stem.Words(o.s, place)), o.words(place), e)
	}
	for _, to := range o.ids {
		for _, from := range o.ids {
			if from != to {
				expect(t, fmt.Sprint("Parent ", from, to), results(stem.Parent(o.s, from, to)), o.parent(from, to), e)
			}
		}
		p, f := stem.Show(o.s, to)
		if e != api.OK || !slices.Contains(o.roots(), to) {
			expect(t, fmt.Sprint("Show ", to), results(p, f), none, cmp.Or(e, api.ErrNone))
		} else if f != api.OK || p[slices.Index(o.ids, to)] != 0 || !o.isPedigree(p) || o.costOf(p) != o.fewest {
			t.Errorf("Show %d: %v, %v", to, p, f)
		}
	}
	agreed, moved := none, none
	if e == api.OK {
		agreed, moved = o.agreed(), o.moved()
	}
	expect(t, "Agreed", results(stem.Agreed(o.s)), agreed, e)
	expect(t, "Moved", results(stem.Moved(o.s)), moved, e)
}

// checkCosts checks what is about any pedigrees, and lists that may be none.
func checkCosts(t *testing.T, r *rand.Rand, o *truth) {
	t.Helper()
	for _, from := range o.ids {
		for _, to := range o.ids {
			if from == to {
				continue
			}
			if got := results(stem.Cost(o.s, from, to)); o.never(from, to) {
				expect(t, fmt.Sprint("Cost ", from, to), got, 0, api.ErrNone)
			} else {
				expect(t, fmt.Sprint("Cost ", from, to), got, o.cost(from, to), api.OK)
			}
		}
	}
	for range 20 {
		p := make([]int, len(o.s.Copies))
		if len(o.pedigrees) > 0 {
			copy(p, o.pedigrees[r.IntN(len(o.pedigrees))])
		}
		if len(p) > 0 && r.IntN(2) == 0 {
			p[r.IntN(len(p))] = slices.Concat([]int{-1, 0, 98, 99}, o.ids)[r.IntN(4+len(p))]
		}
		if r.IntN(9) == 0 {
			p = append(p, 1)
		}
		checkPedigree(t, o, p)
	}
}

func checkPedigree(t *testing.T, o *truth, p []int) {
	t.Helper()
	e := verdict(o.isPedigree(p), api.ErrPedigree)
	expect(t, fmt.Sprint("CheckPedigree ", p), results(stem.CheckPedigree(o.s, p)), e)
	if e != api.OK {
		expect(t, fmt.Sprint("CostOf ", p), results(stem.CostOf(o.s, p)), 0, e)
		expect(t, fmt.Sprint("Slips ", p), results(stem.Slips(o.s, p)), none, e)
		return
	}
	expect(t, fmt.Sprint("CostOf ", p), results(stem.CostOf(o.s, p)), o.costOf(p), e)
	expect(t, fmt.Sprint("Slips ", p), results(stem.Slips(o.s, p)), o.slips(p), e)
}
