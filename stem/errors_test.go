package stem_test

import (
	"fmt"
	"math"
	"math/rand/v2"
	"slices"
	"strings"
	"testing"

	"parvise/api"
	"parvise/stem"
)

func TestP41CheckCopy(t *testing.T) {
	for _, c := range []struct {
		copy  api.Copy
		valid bool
	}{
		{copied(1, 0), true}, {copied(99, 99), true}, {copied(50, 0, 99, 1), true},
		{copied(0, 1), false}, {copied(100, 1), false}, {copied(-1, 1), false}, {copied(math.MaxInt, 1), false},
		{copied(1), false}, {copied(1, make([]int, 16)...), true}, {copied(1, make([]int, 17)...), false},
		{copied(1, 100), false}, {copied(1, -1), false}, {copied(1, 1, math.MinInt), false}, {api.Copy{}, false},
	} {
		expect(t, fmt.Sprint("CheckCopy ", c.copy), results(stem.CheckCopy(c.copy)), verdict(c.valid, api.ErrCopy))
	}
}

func TestP41CheckCosts(t *testing.T) {
	for i := range 4 {
		for n, valid := range map[int]bool{0: true, 100: true, 101: false, -1: false, math.MaxInt: false} {
			l := [4]int{1, 2, 3, 4}
			l[i] = n
			c := api.Costs{Lose: l[0], Gain: l[1], Like: l[2], Turn: l[3]}
			s := example()
			s.Costs = c
			expect(t, fmt.Sprint("CheckCosts ", c), results(stem.CheckCosts(c)), verdict(valid, api.ErrCosts))
			expect(t, fmt.Sprint("Check with ", c), results(stem.Check(s)), verdict(valid, api.ErrStem))
		}
	}
}

func TestP41Check(t *testing.T) {
	for _, c := range []struct {
		name   string
		change func(s *api.Stem)
		valid  bool
	}{
		{"as it is", func(s *api.Stem) {}, true},
		{"nothing", func(s *api.Stem) { *s = api.Stem{} }, true},
		{"costs alone", func(s *api.Stem) { s.Copies, s.Never = nil, nil }, true},
		{"no copies, but a Never", func(s *api.Stem) { s.Copies = nil }, false},
		{"7 copies and 40 Never", func(s *api.Stem) { *s = full() }, true},
		{"8 copies", func(s *api.Stem) {
			*s = full()
			s.Copies = append([]api.Copy{copied(1, make([]int, 16)...)}, s.Copies...)
		}, false},
		{"41 Never", func(s *api.Stem) { *s = full(); s.Never = append(s.Never, never(99, 98)) }, false},
		{"a copy that is none", func(s *api.Stem) { s.Copies[2].Words[3] = 100 }, false},
		{"the Id 0", func(s *api.Stem) { s.Copies[0].Id, s.Never = 0, nil }, false},
		{"copies out of order", func(s *api.Stem) { s.Copies[0], s.Copies[1] = s.Copies[1], s.Copies[0] }, false},
		{"an Id twice", func(s *api.Stem) { s.Copies[3].Id, s.Never = 3, nil }, false},
		{"a copy with fewer words", func(s *api.Stem) { s.Copies[3].Words = s.Copies[3].Words[:3] }, false},
		{"a first copy with more words", func(s *api.Stem) { s.Copies[0].Words = append(s.Copies[0].Words, 1) }, false},
		{"a Never from no copy", func(s *api.Stem) { s.Never[0].From = 5 }, false},
		{"a Never to no copy", func(s *api.Stem) { s.Never[1].To = 5 }, false},
		{"a Never from the root", func(s *api.Stem) { s.Never[0].From = 0 }, false},
		{"a Never of one copy", func(s *api.Stem) { s.Never[0].From = 3 }, false},
		{"Never out of order by From", func(s *api.Stem) { s.Never[0].From = 4 }, false},
		{"Never out of order by To", func(s *api.Stem) { s.Never[0], s.Never[1] = s.Never[1], s.Never[0] }, false},
		{"a Never twice", func(s *api.Stem) { s.Never[0] = s.Never[1] }, false},
		{"Never with falling To", func(s *api.Stem) { s.Never = append(s.Never, never(3, 1)) }, true},
	} {
		s := example(never(2, 3), never(2, 4))
		c.change(&s)
		expect(t, "Check of "+c.name, results(stem.Check(s)), verdict(c.valid, api.ErrStem))
		if _, e := stem.Print(s); e != verdict(c.valid, api.ErrStem) {
			t.Errorf("Print of %s: %v", c.name, e)
		}
	}
}

// args are arguments, of which each call takes some.
type args struct {
	s                         api.Stem
	from, to, root, place, id int
	p                         []int
}

// call is a function, what it takes and asks for beside a stem, in words, and its other results with an error.
type call struct {
	name, takes string
	none        result
	ask         func(a args) result
}

func calls() []call {
	list, number := results(none), results(0)
	return []call{
		{"With", "", results(api.Stem{}), func(a args) result { return results(stem.With(a.s, copied(50, 1, 2, 3, 4))) }},
		{"Without", "id", results(api.Stem{}), func(a args) result { return results(stem.Without(a.s, a.id)) }},
		{"Cost", "pair", number, func(a args) result { return results(stem.Cost(a.s, a.from, a.to)) }},
		{"Fewest", "whole", number, func(a args) result { return results(stem.Fewest(a.s)) }},
		{"Pedigree", "whole", list, func(a args) result { return results(stem.Pedigree(a.s)) }},
		{"CheckPedigree", "pedigree", nil, func(a args) result { return results(stem.CheckPedigree(a.s, a.p)) }},
		{"CostOf", "pedigree", number, func(a args) result { return results(stem.CostOf(a.s, a.p)) }},
		{"Slips", "pedigree", list, func(a args) result { return results(stem.Slips(a.s, a.p)) }},
		{"Proof", "whole", list, func(a args) result { return results(stem.Proof(a.s)) }},
		{"CheckProof", "proof", nil, func(a args) result { return results(stem.CheckProof(a.s, nil, 0)) }},
		{"Parent", "pair whole", number, func(a args) result { return results(stem.Parent(a.s, a.from, a.to)) }},
		{"Roots", "whole", list, func(a args) result { return results(stem.Roots(a.s)) }},
		{"Show", "root whole", list, func(a args) result { return results(stem.Show(a.s, a.root)) }},
		{"Words", "place whole", list, func(a args) result { return results(stem.Words(a.s, a.place)) }},
		{"Agreed", "whole", list, func(a args) result { return results(stem.Agreed(a.s)) }},
		{"Moved", "whole", list, func(a args) result { return results(stem.Moved(a.s)) }},
		{"Print", "", results(""), func(a args) result { return results(stem.Print(a.s)) }},
	}
}

// TestP41Errors gives each function ever fewer wrong arguments: the error named first is due.
func TestP41Errors(t *testing.T) {
	for _, c := range calls() {
		a := args{s: wrong(), place: -1}
		takes := func(word string) bool { return slices.Contains(strings.Fields(c.takes), word) }
		refuse := func(when bool, e api.Errno) {
			t.Helper()
			got := c.ask(a)
			if is := got[len(got)-1] == e; is != when {
				t.Errorf("%s of %v: %v; the error %v is expected: %v", c.name, a, got, e, when)
			} else if is {
				expect(t, c.name+" with an error", got[:len(got)-1], c.none...)
			}
		}
		refuse(true, api.ErrStem)
		a.s = apart()
		for _, pair := range [][2]int{{0, 1}, {1, 0}, {5, 1}, {1, 5}, {2, 2}, {-1, 2}, {math.MaxInt, 1}, {1, math.MinInt}} {
			a.from, a.to = pair[0], pair[1]
			refuse(takes("pair") || takes("root"), api.ErrArg)
		}
		a.from, a.to = 1, 2
		for _, a.root = range []int{0, 5, -1, math.MaxInt} {
			refuse(takes("root"), api.ErrArg)
			refuse(takes("pedigree"), api.ErrPedigree)
		}
		a.root = 1
		for _, a.place = range []int{-1, 4, math.MinInt, math.MaxInt} {
			refuse(takes("place"), api.ErrPlace)
		}
		a.place = 3
		for _, a.id = range []int{0, 5, -1} {
			refuse(takes("id"), api.ErrNone)
		}
		a.id = 1
		refuse(takes("whole"), api.ErrApart)
		refuse(takes("proof"), api.ErrProof)
		a.s, a.root, a.from, a.to = example(never(2, 3)), 3, 2, 3
		refuse(c.name == "Cost" || takes("root"), api.ErrNone)
		refuse(false, api.ErrApart)
		a.s, a.p = api.Stem{Copies: []api.Copy{copied(7, 1)}}, []int{0}
		refuse(false, api.ErrPedigree)
	}
}

func TestP41Pedigrees(t *testing.T) {
	s := example(never(2, 3))
	for _, p := range [][]int{{0, 1, 1, 1}, {2, 0, 4, 1}, {4, 1, 1, 0}, {2, 3, 0, 3}} {
		expect(t, fmt.Sprint("CheckPedigree ", p), results(stem.CheckPedigree(s, p)), api.OK)
	}
	for _, p := range [][]int{
		nil, {0, 1, 1}, {0, 1, 1, 1, 1}, {0, 1, 2, 1}, {0, 0, 1, 1}, {2, 1, 1, 1}, {0, 2, 1, 1}, {0, 3, 2, 1}, {0, 3, 4, 2},
		{1, 1, 1, 1}, {0, 1, 1, 5}, {0, 1, 1, -1}, {-1, 1, 1, 1}, {0, 0, 0, 0}, {0, 1, 4, 3}, {0, 1, 1, math.MaxInt},
	} {
		expect(t, fmt.Sprint("CheckPedigree ", p), results(stem.CheckPedigree(s, p)), api.ErrPedigree)
		expect(t, fmt.Sprint("CostOf ", p), results(stem.CostOf(s, p)), 0, api.ErrPedigree)
		expect(t, fmt.Sprint("Slips ", p), results(stem.Slips(s, p)), none, api.ErrPedigree)
	}
}

// TestP41Any calls all functions with random arguments, most of them wrong: they return.
func TestP41Any(t *testing.T) {
	r := rand.New(rand.NewPCG(44, 4))
	number := func() int {
		return []int{math.MinInt, -1, 0, 1, 2, 5, 7, 16, 99, 100, 101, 100000, 100001, math.MaxInt}[r.IntN(14)]
	}
	list := func() []int {
		l := make([]int, r.IntN(4))
		for i := range l {
			l[i] = number()
		}
		return l
	}
	for range 2000 {
		s := someStem(r, 4)
		switch r.IntN(4) {
		case 0:
			s.Copies = append(s.Copies, api.Copy{Id: number(), Words: list()})
		case 1:
			s.Never = append(s.Never, never(number(), number()))
		case 2:
			s.Costs.Like = number()
		}
		c := api.Copy{Id: number(), Words: list()}
		stem.CheckCopy(c)
		stem.CheckCosts(api.Costs{Lose: number(), Gain: number()})
		stem.With(s, c)
		stem.CheckProof(s, []api.Weight{weight(number(), number()), weight(number(), number())}, number())
		stem.Parse(string([]byte{byte(r.IntN(256)), byte(r.IntN(256))}))
		a := args{s: s, from: number(), to: number(), root: number(), place: number(), id: number(), p: list()}
		for _, c := range calls() {
			c.ask(a)
		}
	}
}

// TestP41Many hands in lists that are much too long: their length alone decides.
func TestP41Many(t *testing.T) {
	s := api.Stem{Copies: slices.Repeat([]api.Copy{copied(1, 1)}, 1<<20), Never: slices.Repeat([]api.Never{never(1, 2)}, 1<<20)}
	for _, c := range calls() {
		if got := c.ask(args{s: s}); got[len(got)-1] != api.ErrStem {
			t.Errorf("%s: %v", c.name, got[len(got)-1])
		}
	}
	if e := stem.CheckProof(example(), slices.Repeat([]api.Weight{weight(1, 1)}, 1<<20), 0); e != api.ErrProof {
		t.Errorf("CheckProof: %v", e)
	}
	if e := stem.CheckPedigree(example(), make([]int, 1<<20)); e != api.ErrPedigree {
		t.Errorf("CheckPedigree: %v", e)
	}
}
