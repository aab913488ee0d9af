package stem_test

import (
	"fmt"
	"math"
	"math/rand/v2"
	"slices"
	"testing"

	"parvise/api"
	"parvise/stem"
)

// proof returns the weights of the chapter's examples.
func proof() []api.Weight {
	return []api.Weight{weight(1, 1), weight(2, 1), weight(4, 2), weight(7, 3), weight(8, 4), weight(11, 1), weight(15, 99995)}
}

func TestP41Examples(t *testing.T) {
	s := example()
	for pair, cost := range map[[2]int]int{{1, 2}: 1, {2, 1}: 1, {1, 3}: 3, {2, 3}: 2, {3, 2}: 9, {1, 4}: 4, {2, 4}: 5} {
		expect(t, fmt.Sprint("Cost ", pair), results(stem.Cost(s, pair[0], pair[1])), cost, api.OK)
	}
	expect(t, "Fewest", results(stem.Fewest(s)), 7, api.OK)
	expect(t, "Pedigree", results(stem.Pedigree(s)), []int{0, 1, 2, 1}, api.OK)
	expect(t, "CostOf 2 0 2 1", results(stem.CostOf(s, []int{2, 0, 2, 1})), 7, api.OK)
	expect(t, "CostOf 0 1 1 1", results(stem.CostOf(s, []int{0, 1, 1, 1})), 8, api.OK)
	expect(t, "CheckPedigree 0 3 2 1", results(stem.CheckPedigree(s, []int{0, 3, 2, 1})), api.ErrPedigree)
	expect(t, "Roots", results(stem.Roots(s)), []int{1, 2, 4}, api.OK)
	expect(t, "Show(4)", results(stem.Show(s, 4)), []int{4, 1, 2, 0}, api.OK)
	expect(t, "Show(3)", results(stem.Show(s, 3)), none, api.ErrNone)
	for pair, answer := range map[[2]int]int{{2, 3}: api.Yes, {1, 2}: api.Maybe, {1, 3}: api.No, {1, 4}: api.Maybe} {
		expect(t, fmt.Sprint("Parent ", pair), results(stem.Parent(s, pair[0], pair[1])), answer, api.OK)
	}
	expect(t, "Words(2)", results(stem.Words(s, 2)), []int{30, 31}, api.OK)
	expect(t, "Words(3)", results(stem.Words(s, 3)), []int{40, 50}, api.OK)
	expect(t, "Words(4)", results(stem.Words(s, 4)), none, api.ErrPlace)
	expect(t, "Agreed", results(stem.Agreed(s)), []int{10, 20, -1, -1}, api.OK)
	expect(t, "Slips", results(stem.Slips(s, []int{0, 1, 2, 1})), []api.Slip{{Copy: 2, Place: 2, From: 30, To: 31}, {Copy: 3, Place: 1, From: 20}, {Copy: 4, Place: 3, From: 40, To: 50}}, api.OK)
	expect(t, "Fewest with a Never", results(stem.Fewest(example(never(2, 3)))), 8, api.OK)
	expect(t, "Pedigree with a Never", results(stem.Pedigree(example(never(2, 3)))), []int{0, 1, 1, 1}, api.OK)
	expect(t, "Moved", results(stem.Moved(s)), []int{2, 4}, api.OK)
}

func TestP41CheckProof(t *testing.T) {
	for _, c := range []struct {
		name   string
		cost   int
		change func(l []api.Weight) []api.Weight
		want   api.Errno
	}{
		{"as they are", 7, nil, api.OK},
		{"for less", 0, nil, api.OK},
		{"for more", 8, nil, api.ErrProof},
		{"for less than nothing", -1, nil, api.ErrProof},
		{"for the least number", math.MinInt, nil, api.ErrProof},
		{"for more than RootCost", api.RootCost + 1, nil, api.ErrProof},
		{"for the greatest number", math.MaxInt, nil, api.ErrProof},
		{"none", 0, func(l []api.Weight) []api.Weight { return nil }, api.ErrProof},
		{"without {11, 1}", 7, func(l []api.Weight) []api.Weight { return slices.Delete(l, 5, 6) }, api.ErrProof},
		{"without {11, 1}, for less", 6, func(l []api.Weight) []api.Weight { return slices.Delete(l, 5, 6) }, api.OK},
		{"with {4, 3}", 7, func(l []api.Weight) []api.Weight { l[2].Weight = 3; return l }, api.ErrProof},
		{"with {15, 99996}", 7, func(l []api.Weight) []api.Weight { l[6].Weight++; return l }, api.ErrProof},
		{"with a weight of 0", 5, func(l []api.Weight) []api.Weight { l[2].Weight = 0; return l }, api.ErrProof},
		{"with a weight less than 0", 0, func(l []api.Weight) []api.Weight { l[2].Weight = -1; return l }, api.ErrProof},
		{"with the set 0", 0, func(l []api.Weight) []api.Weight { return slices.Insert(l, 0, weight(0, 1)) }, api.ErrProof},
		{"with the set 16", 0, func(l []api.Weight) []api.Weight { return append(l, weight(16, 1)) }, api.ErrProof},
		{"with a set twice", 7, func(l []api.Weight) []api.Weight { return append(l[:6], weight(15, 99994), weight(15, 1)) }, api.ErrProof},
		{"out of order", 7, func(l []api.Weight) []api.Weight { l[0], l[1] = l[1], l[0]; return l }, api.ErrProof},
		{"RootCost alone", 0, func(l []api.Weight) []api.Weight { return []api.Weight{weight(15, api.RootCost)} }, api.OK},
		{"more than RootCost", 0, func(l []api.Weight) []api.Weight { return []api.Weight{weight(15, api.RootCost+1)} }, api.ErrProof},
		{"great ones", 0, func(l []api.Weight) []api.Weight { return []api.Weight{weight(1, math.MaxInt), weight(2, math.MaxInt)} }, api.ErrProof},
	} {
		l := proof()
		if c.change != nil {
			l = c.change(l)
		}
		expect(t, "CheckProof: "+c.name, results(stem.CheckProof(example(), l, c.cost)), c.want)
	}
	// With Never no step leads from one to the other: each may bear a weight of its own.
	lone := api.Stem{Copies: []api.Copy{copied(1, 1), copied(2, 2)}, Never: []api.Never{never(1, 2), never(2, 1)}}
	two := []api.Weight{weight(1, api.RootCost), weight(2, api.RootCost)}
	expect(t, "CheckProof without a pedigree", results(stem.CheckProof(lone, two, api.RootCost)), api.OK)
	lone.Never = lone.Never[:1]
	expect(t, "CheckProof of too much", results(stem.CheckProof(lone, two, 0)), api.ErrProof)
}

// TestP41MaxSets looks at as many weights as may be, and at one more.
func TestP41MaxSets(t *testing.T) {
	s := full()
	s.Never = nil
	var l []api.Weight
	for set := range api.MaxSets {
		l = append(l, weight(set+1, 1))
	}
	l[39] = weight(127, api.RootCost-api.MaxSets)
	expect(t, "CheckProof of 40 weights", results(stem.CheckProof(s, l, 0)), api.ErrProof)
	l[39].Weight += 1
	expect(t, "CheckProof of 40 weights that are enough", results(stem.CheckProof(s, l, 0)), api.OK)
	l = slices.Insert(l, 39, weight(64, 1))
	expect(t, "CheckProof of 41 weights", results(stem.CheckProof(s, l, 0)), api.ErrProof)
}

func TestP41With(t *testing.T) {
	s := example(never(2, 3), never(4, 1))
	for i := range s.Copies {
		s.Copies[i].Id = 10 * (i + 1)
	}
	s.Never = []api.Never{never(20, 30), never(40, 10)}
	for id, at := range map[int]int{1: 0, 15: 1, 39: 3, 99: 4} {
		c := copied(id, 1, 2, 3, 0)
		more := s
		more.Copies = slices.Insert(slices.Clone(s.Copies), at, c)
		expect(t, fmt.Sprint("With ", c), results(stem.With(s, c)), more, api.OK)
		expect(t, fmt.Sprint("Without ", id), results(stem.Without(more, id)), s, api.OK)
	}
	for _, c := range []api.Copy{{}, copied(5), copied(0, 1, 2, 3, 4), copied(100, 1, 2, 3, 4), copied(10, 1, 2, 3, 4), copied(40, 1, 2, 3, 4), copied(5, 1, 2, 3), copied(5, 1, 2, 3, 4, 5), copied(5, 1, 2, 3, 100)} {
		expect(t, fmt.Sprint("With ", c), results(stem.With(s, c)), api.Stem{}, api.ErrCopy)
	}
	words := make([]int, api.MaxWords)
	expect(t, "With in a stem that is full", results(stem.With(full(), copied(1, words...))), api.Stem{}, api.ErrLong)
	expect(t, "With twice in one that is full", results(stem.With(full(), copied(95, words...))), api.Stem{}, api.ErrCopy)
	expect(t, "With of fewer words in one that is full", results(stem.With(full(), copied(1, 1))), api.Stem{}, api.ErrCopy)
	empty := api.Stem{Costs: api.Costs{Lose: 1}}
	one := api.Stem{Costs: empty.Costs, Copies: []api.Copy{copied(99, words...)}}
	expect(t, "With of the first one", results(stem.With(empty, one.Copies[0])), one, api.OK)
	expect(t, "Without of the last one", results(stem.Without(one, 99)), empty, api.OK)
	expect(t, "Without of none", results(stem.Without(empty, 0)), api.Stem{}, api.ErrNone)
	less := example(never(1, 2), never(3, 4))
	less.Copies = slices.Delete(less.Copies, 3, 4)
	less.Never = less.Never[:1]
	expect(t, "Without of one that a Never names", results(stem.Without(example(never(1, 2), never(1, 4), never(3, 4), never(4, 1)), 4)), less, api.OK)
}

// TestP41Memory changes what was returned: what was handed in stays as it was.
func TestP41Memory(t *testing.T) {
	s, c := example(never(1, 3), never(3, 2)), copied(5, 1, 2, 3, 4)
	more, _ := stem.With(s, c)
	less, _ := stem.Without(s, 4)
	for _, other := range []api.Stem{more, less} {
		for i := range other.Copies {
			other.Copies[i].Id = 77
			for j := range other.Copies[i].Words {
				other.Copies[i].Words[j] = 77
			}
		}
		other.Never[0] = never(77, 77)
	}
	expect(t, "the copy handed in", results(c), copied(5, 1, 2, 3, 4))
	// Room behind the lists is not written to.
	s.Copies = slices.Grow(s.Copies, 5)
	spare := s.Copies[:5]
	stem.With(s, c)
	expect(t, "the room behind the copies", results(spare[4]), api.Copy{})
	p, l := []int{0, 1, 2, 1}, proof()
	for _, call := range calls() {
		for _, v := range call.ask(args{s: s, from: 1, to: 2, root: 1, p: p, id: 1}) {
			if l, is := v.([]int); is {
				for i := range l {
					l[i] = 77
				}
			}
		}
	}
	stem.CheckProof(s, l, 7)
	expect(t, "the stem", results(s), example(never(1, 3), never(3, 2)))
	expect(t, "the lists handed in", results(p, l), []int{0, 1, 2, 1}, proof())
}

// TestP41Edges asks of the least and the greatest stems.
func TestP41Edges(t *testing.T) {
	for _, c := range calls() {
		if got := c.ask(args{}); c.takes == "whole" {
			expect(t, c.name+" without copies", got, slices.Concat(c.none, results(api.ErrApart))...)
		}
	}
	expect(t, "CheckPedigree without copies", results(stem.CheckPedigree(api.Stem{}, nil)), api.ErrPedigree)
	expect(t, "Words without copies", results(stem.Words(api.Stem{}, 0)), none, api.ErrPlace)
	expect(t, "CheckProof without copies", results(stem.CheckProof(api.Stem{}, nil, 0)), api.ErrProof)
	expect(t, "CheckProof without copies, with a set", results(stem.CheckProof(api.Stem{}, []api.Weight{weight(1, api.RootCost)}, 0)), api.ErrProof)

	one := api.Stem{Copies: []api.Copy{copied(99, 0, 5)}}
	expect(t, "Fewest of one copy", results(stem.Fewest(one)), 0, api.OK)
	expect(t, "Pedigree of one copy", results(stem.Pedigree(one)), []int{0}, api.OK)
	expect(t, "Agreed of one copy", results(stem.Agreed(one)), []int{0, 5}, api.OK)
	expect(t, "Moved of one copy", results(stem.Moved(one)), []int{99}, api.OK)
	expect(t, "Proof of one copy", results(stem.Proof(one)), []api.Weight{weight(1, api.RootCost)}, api.OK)
	expect(t, "Slips of one copy", results(stem.Slips(one, []int{0})), none, api.OK)

	s := full()
	expect(t, "Fewest with as many Never as may be", results(stem.Fewest(s)), 0, api.ErrApart)
	s.Never = nil
	expect(t, "Fewest of the dearest", results(stem.Fewest(s)), 6*api.MaxWords*api.MaxCost, api.OK)
	expect(t, "Roots of the dearest", results(stem.Roots(s)), ids(s), api.OK)
	expect(t, "Pedigree of the dearest", results(stem.Pedigree(s)), []int{0, 93, 93, 93, 93, 93, 93}, api.OK)

	for _, c := range []struct{ from, to, cost int }{{1, 0, 1}, {0, 1, 2}, {99, 0, 1}, {0, 99, 2}, {4, 5, 3}, {5, 4, 3}, {4, 6, 4}, {1, 99, 4}, {0, 0, 0}, {7, 7, 0}} {
		s := api.Stem{Copies: []api.Copy{copied(1, c.from), copied(2, c.to)}, Costs: api.Costs{Lose: 1, Gain: 2, Like: 3, Turn: 4}}
		expect(t, fmt.Sprint("Cost ", c), results(stem.Cost(s, 1, 2)), c.cost, api.OK)
	}
	// The first pedigree by R6 may need a copy whose own parent comes late.
	long := api.Stem{Copies: []api.Copy{copied(1, 0), copied(2, 0), copied(3, 0), copied(4, 5)}, Costs: api.Costs{Lose: 1, Gain: 100}, Never: []api.Never{never(4, 1), never(4, 2)}}
	expect(t, "Pedigree from the last copy", results(stem.Pedigree(long)), []int{2, 3, 4, 0}, api.OK)
}

// TestP42Least: what is shown costs as much as Fewest, any other pedigree no less; proofs are accepted for no more.
func TestP42Least(t *testing.T) {
	accepted, refused := 0, 0
	eachSome(t, 421, 1000, 5, func(r *rand.Rand, s api.Stem) {
		o := truthOf(s)
		fewest, e := stem.Fewest(s)
		if e != api.OK {
			return
		}
		for _, p := range o.pedigrees {
			if cost, e := stem.CostOf(s, p); cost < fewest || e != api.OK {
				t.Errorf("CostOf %v: %d, %v; Fewest %d", p, cost, e, fewest)
			}
		}
		for _, p := range least(t, s) {
			expect(t, fmt.Sprint("CostOf ", p), results(stem.CostOf(s, p)), fewest, api.OK)
		}
		l, e := stem.Proof(s)
		expect(t, "Proof, CheckProof", results(e, stem.CheckProof(s, l, fewest)), api.OK, api.OK)
		expect(t, "CheckProof of more", results(stem.CheckProof(s, l, fewest+1)), api.ErrProof)
		for range 20 {
			l, cost := altered(r, l), fewest+r.IntN(3)-1
			is := o.show(l, cost)
			expect(t, fmt.Sprint("CheckProof ", l, cost), results(stem.CheckProof(s, l, cost)), verdict(is, api.ErrProof))
			if is && cost > fewest {
				t.Errorf("%v show that no pedigree costs less than %d", l, cost)
			}
			if is {
				accepted++
			} else {
				refused++
			}
		}
	})
	if accepted < 2000 || refused < 2000 {
		t.Errorf("%d proofs are accepted, %d are refused", accepted, refused)
	}
}

// altered returns weights of which some are others, there no more, or on other sets.
func altered(r *rand.Rand, l []api.Weight) []api.Weight {
	l = slices.Clone(l)
	for range r.IntN(3) {
		i := r.IntN(len(l))
		switch r.IntN(4) {
		case 0:
			l[i].Weight += r.IntN(3) - 1
		case 1:
			l[i].Set += r.IntN(3) - 1
		case 2:
			l[len(l)-1].Weight += r.IntN(5) - 2
		case 3:
			if len(l) > 1 {
				l = slices.Delete(l, i, i+1)
			}
		}
	}
	return l
}

// TestP42Seven shows that no pedigree of as many copies as may be costs less, with few weights.
func TestP42Seven(t *testing.T) {
	r := rand.New(rand.NewPCG(422, 4))
	whole := 0
	for range 300 {
		s := full()
		s.Never = nil
		s.Costs = api.Costs{Lose: r.IntN(101), Gain: r.IntN(101), Like: r.IntN(101), Turn: r.IntN(101)}
		for _, c := range s.Copies {
			for place := range c.Words {
				c.Words[place] = r.IntN(3) * r.IntN(50)
			}
		}
		for _, n := range full().Never {
			if r.IntN(3) == 0 {
				s.Never = append(s.Never, n)
			}
		}
		fewest, e := stem.Fewest(s)
		if e != api.OK {
			continue
		}
		whole++
		l, e := stem.Proof(s)
		expect(t, "Proof, CheckProof", results(e, stem.CheckProof(s, l, fewest)), api.OK, api.OK)
		for _, p := range least(t, s) {
			expect(t, fmt.Sprint("CostOf ", p), results(stem.CostOf(s, p)), fewest, api.OK)
		}
	}
	if whole < 200 {
		t.Errorf("%d stems have a pedigree", whole)
	}
}

// TestP43Agreed holds what is reported against each least pedigree.
func TestP43Agreed(t *testing.T) {
	eachSome(t, 43, 600, 5, func(r *rand.Rand, s api.Stem) {
		o := truthOf(s)
		if len(o.least) == 0 {
			return
		}
		roots, _ := stem.Roots(s)
		agreed, _ := stem.Agreed(s)
		var words [][]int
		for place := range agreed {
			l, _ := stem.Words(s, place)
			words = append(words, l)
		}
		for _, p := range o.least {
			root := o.ids[slices.Index(p, 0)]
			if !slices.Contains(roots, root) {
				t.Errorf("Roots: %v, without that of %v", roots, p)
			}
			for place, own := range o.copyOf(root).Words {
				if agreed[place] != -1 && agreed[place] != own || !slices.Contains(words[place], own) {
					t.Errorf("Agreed: %v, Words: %v, with the root of %v", agreed, words, p)
				}
			}
		}
		for _, root := range roots {
			if p, e := stem.Show(s, root); e != api.OK || !slices.ContainsFunc(o.least, func(l []int) bool { return slices.Equal(l, p) }) {
				t.Errorf("Show of the root %d: %v, %v", root, p, e)
			}
		}
	})
}

// TestP43Parent holds Parent against each least pedigree.
func TestP43Parent(t *testing.T) {
	eachSome(t, 431, 600, 5, func(r *rand.Rand, s api.Stem) {
		o := truthOf(s)
		for i, to := range o.ids {
			for _, from := range o.ids {
				answer, e := stem.Parent(s, from, to)
				for _, p := range o.least {
					if from != to && (e != api.OK || answer == api.No && p[i] == from || answer == api.Yes && p[i] != from) {
						t.Errorf("Parent %d %d: %d, %v; %v is a least pedigree", from, to, answer, e, p)
					}
				}
			}
		}
	})
}

// TestP44Slips: the errors cost what the pedigree costs, and lead back.
func TestP44Slips(t *testing.T) {
	eachSome(t, 44, 600, 5, func(r *rand.Rand, s api.Stem) {
		o := truthOf(s)
		for _, p := range o.pedigrees[:min(50, len(o.pedigrees))] {
			slips, e := stem.Slips(s, p)
			expect(t, "Slips", results(e), api.OK)
			cost := 0
			right := map[int][]int{}
			for _, c := range s.Copies {
				right[c.Id] = slices.Clone(c.Words)
			}
			for _, slip := range slips {
				cost += kindCost(s.Costs, slip)
				if right[slip.Copy][slip.Place] != slip.To || slip.From == slip.To {
					t.Errorf("slip %v", slip)
				}
				right[slip.Copy][slip.Place] = slip.From
			}
			expect(t, fmt.Sprint("CostOf ", p), results(stem.CostOf(s, p)), cost, api.OK)
			for i, from := range p {
				if from != 0 {
					expect(t, fmt.Sprint("put right by ", slips), results(right[o.ids[i]]), o.copyOf(from).Words)
				}
			}
		}
	})
}

func kindCost(c api.Costs, s api.Slip) int {
	switch {
	case s.To == 0:
		return c.Lose
	case s.From == 0:
		return c.Gain
	case max(s.To-s.From, s.From-s.To) == 1:
		return c.Like
	}
	return c.Turn
}

// TestP45Never: one more Never makes no pedigree cost less, and leaves a least one that it does not name.
func TestP45Never(t *testing.T) {
	stays, goes := 0, 0
	eachSome(t, 45, 400, 5, func(r *rand.Rand, s api.Stem) {
		fewest, e := stem.Fewest(s)
		if e != api.OK || len(s.Never) == api.MaxNever {
			return
		}
		shown := least(t, s)
		for _, from := range ids(s) {
			for i, to := range ids(s) {
				if from == to || slices.Contains(s.Never, never(from, to)) {
					continue
				}
				more := withNever(s, never(from, to))
				cost, e := stem.Fewest(more)
				if e == api.OK && cost < fewest {
					t.Errorf("Fewest with %d %d: %d, without %d", from, to, cost, fewest)
				}
				for _, p := range shown {
					if p[i] == from {
						goes++
						expect(t, "CheckPedigree of one that it names", results(stem.CheckPedigree(more, p)), api.ErrPedigree)
						continue
					}
					stays++
					expect(t, "Fewest", results(cost, e), fewest, api.OK)
					expect(t, "CostOf one that it does not name", results(stem.CostOf(more, p)), fewest, api.OK)
				}
			}
		}
	})
	if stays < 1000 || goes < 1000 {
		t.Errorf("%d pedigrees stay, %d go", stays, goes)
	}
}

// withNever returns a stem with one more Never, at its place.
func withNever(s api.Stem, n api.Never) api.Stem {
	s.Never = append(slices.Clone(s.Never), n)
	slices.SortFunc(s.Never, func(a, b api.Never) int { return 100*(a.From-b.From) + a.To - b.To })
	return s
}

func TestP45Twin(t *testing.T) {
	eachSome(t, 46, 600, 6, func(r *rand.Rand, s api.Stem) {
		s.Never = nil
		fewest, e := stem.Fewest(s)
		if e != api.OK {
			return
		}
		twin := s.Copies[r.IntN(len(s.Copies))]
		twin.Id = 10 * (1 + r.IntN(9))
		more, e := stem.With(s, twin)
		expect(t, "With", results(e), api.OK)
		expect(t, "Fewest with a twin", results(stem.Fewest(more)), fewest, api.OK)
	})
}
