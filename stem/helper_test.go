package stem_test

import (
	"fmt"
	"math/rand/v2"
	"testing"

	"parvise/api"
	"parvise/stem"
)

func copied(id int, words ...int) api.Copy { return api.Copy{Id: id, Words: words} }

func never(from, to int) api.Never { return api.Never{From: from, To: to} }

func weight(set, weight int) api.Weight { return api.Weight{Set: set, Weight: weight} }

// example returns the stem of the chapter's examples.
func example(never ...api.Never) api.Stem {
	return api.Stem{
		Copies: []api.Copy{copied(1, 10, 20, 30, 40), copied(2, 10, 20, 31, 40), copied(3, 10, 0, 31, 40), copied(4, 10, 20, 30, 50)},
		Costs:  api.Costs{Lose: 2, Gain: 9, Like: 1, Turn: 4},
		Never:  never,
	}
}

// apart returns a stem without a pedigree: neither 3 nor 4 was copied from another one.
func apart() api.Stem {
	return example(never(1, 3), never(1, 4), never(2, 3), never(2, 4), never(3, 4), never(4, 3))
}

// wrong returns a stem that is not valid.
func wrong() api.Stem { return api.Stem{Copies: []api.Copy{{}}} }

// full returns a stem with as much of everything as may be; it has no pedigree.
func full() api.Stem {
	s := api.Stem{Costs: api.Costs{Lose: api.MaxCost, Gain: api.MaxCost, Like: api.MaxCost, Turn: api.MaxCost}}
	for i := range api.MaxCopies {
		words := make([]int, api.MaxWords)
		for j := range words {
			words[j] = api.MaxWord - 2*i
		}
		s.Copies = append(s.Copies, copied(93+i, words...))
	}
	for _, from := range ids(s) {
		for _, to := range ids(s) {
			// All pairs but two.
			if from != to && from+to != 98+99 {
				s.Never = append(s.Never, never(from, to))
			}
		}
	}
	return s
}

// ids returns the Ids of a stem.
func ids(s api.Stem) []int {
	var all []int
	for _, c := range s.Copies {
		all = append(all, c.Id)
	}
	return all
}

// none is an empty list.
var none []int

// result is what a call returned: all its values.
type result []any

func results(values ...any) result { return values }

// expect compares what a call returned by its print, in which nil and empty lists are the same.
func expect(t *testing.T, call string, got result, want ...any) {
	t.Helper()
	if fmt.Sprint(got...) != fmt.Sprint(want...) {
		t.Errorf("%s: %v; expected %v", call, got, want)
	}
}

// verdict is OK if something is so, and otherwise an error.
func verdict(ok bool, e api.Errno) api.Errno {
	if ok {
		return api.OK
	}
	return e
}

// someStem returns a valid stem of at most so many copies, which has a pedigree more often than not. Words are few, so that copies are often alike.
func someStem(r *rand.Rand, copies int) api.Stem {
	s := api.Stem{Costs: api.Costs{Lose: r.IntN(4), Gain: r.IntN(9), Like: r.IntN(3), Turn: r.IntN(6)}}
	if r.IntN(4) == 0 {
		s.Costs = api.Costs{Lose: r.IntN(101), Gain: r.IntN(101), Like: r.IntN(101), Turn: r.IntN(101)}
	}
	places := 1 + r.IntN(4)
	for i := range r.IntN(copies + 1) {
		c := copied(10*i + 1 + r.IntN(9))
		for range places {
			c.Words = append(c.Words, r.IntN(4)*r.IntN(3))
		}
		s.Copies = append(s.Copies, c)
	}
	density := r.IntN(8)
	for _, from := range ids(s) {
		for _, to := range ids(s) {
			if from != to && len(s.Never) < api.MaxNever && r.IntN(10) < density {
				s.Never = append(s.Never, never(from, to))
			}
		}
	}
	if r.IntN(3) == 0 {
		s.Never = nil
	}
	return s
}

// eachSome calls a function with many random stems of at most so many copies.
func eachSome(t *testing.T, seed uint64, many, copies int, f func(r *rand.Rand, s api.Stem)) {
	t.Helper()
	r := rand.New(rand.NewPCG(seed, 4))
	for range many {
		s := someStem(r, copies)
		f(r, s)
		if t.Failed() {
			t.Fatalf("stem %+v", s)
		}
	}
}

// least returns the pedigrees that the package shows of a stem with one: the first one, and one for each root.
func least(t *testing.T, s api.Stem) [][]int {
	t.Helper()
	first, e := stem.Pedigree(s)
	expect(t, "Pedigree", results(e), api.OK)
	all := [][]int{first}
	roots, e := stem.Roots(s)
	expect(t, "Roots", results(e), api.OK)
	for _, root := range roots {
		p, e := stem.Show(s, root)
		expect(t, "Show", results(e), api.OK)
		all = append(all, p)
	}
	return all
}
