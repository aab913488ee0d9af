package leaf_test

import (
	"fmt"
	"math"
	"math/rand/v2"
	"slices"
	"strings"
	"testing"

	"parvise/api"
	"parvise/leaf"
)

func TestP51CheckStray(t *testing.T) {
	for _, c := range []struct {
		name   string
		change func(s *api.Stray)
		valid  bool
	}{
		{"as it is", func(s *api.Stray) {}, true},
		{"the least", func(s *api.Stray) { *s = api.Stray{Id: 1, Paper: 1} }, true},
		{"the greatest", func(s *api.Stray) { *s = api.Stray{Id: 99, Paper: 999, First: 999, Catch: 999, Holes: 4095} }, true},
		{"all holes unsure", func(s *api.Stray) { s.Holes, s.Unsure = 0, 4095 }, true},
		{"holes of which others are unsure", func(s *api.Stray) { s.Holes, s.Unsure = 1365, 2730 }, true},
		{"nothing", func(s *api.Stray) { *s = api.Stray{} }, false},
		{"the Id 0", func(s *api.Stray) { s.Id = 0 }, false},
		{"an Id less than 0", func(s *api.Stray) { s.Id = math.MinInt }, false},
		{"the Id 100", func(s *api.Stray) { s.Id = 100 }, false},
		{"the paper 0", func(s *api.Stray) { s.Paper = 0 }, false},
		{"the paper 1000", func(s *api.Stray) { s.Paper = 1000 }, false},
		{"the first word -1", func(s *api.Stray) { s.First = -1 }, false},
		{"the first word 1000", func(s *api.Stray) { s.First = 1000 }, false},
		{"the catchword -1", func(s *api.Stray) { s.Catch = -1 }, false},
		{"the catchword 1000", func(s *api.Stray) { s.Catch = 1000 }, false},
		{"the holes -1", func(s *api.Stray) { s.Holes, s.Unsure = -1, 0 }, false},
		{"the hole 12", func(s *api.Stray) { s.Holes, s.Unsure = 4096, 0 }, false},
		{"the unsure holes -1", func(s *api.Stray) { s.Holes, s.Unsure = 0, -1 }, false},
		{"the unsure hole 12", func(s *api.Stray) { s.Holes, s.Unsure = 0, 4096 }, false},
		{"holes beyond all", func(s *api.Stray) { s.Holes, s.Unsure = math.MaxInt, math.MinInt }, false},
		{"a hole that is unsure", func(s *api.Stray) { s.Holes, s.Unsure = 3, 6 }, false},
	} {
		s := sheet(50, 10, 20, 1, 6)
		c.change(&s)
		expect(t, "CheckStray of "+c.name, results(leaf.CheckStray(s)), verdict(c.valid, api.ErrStray))
		expect(t, "Check of one sheet with "+c.name, results(leaf.Check(api.Heap{Strays: []api.Stray{s}})), verdict(c.valid, api.ErrHeap))
	}
}

func TestP51Check(t *testing.T) {
	for _, c := range []struct {
		name   string
		change func(h *api.Heap)
		valid  bool
	}{
		{"as it is", func(h *api.Heap) {}, true},
		{"nothing", func(h *api.Heap) { *h = api.Heap{} }, true},
		{"as much as may be", func(h *api.Heap) { *h = full() }, true},
		{"25 sheets", func(h *api.Heap) { *h = full(); h.Strays = slices.Insert(h.Strays, 0, sheet(1, 0, 0, 0, 0)) }, false},
		{"13 threads", func(h *api.Heap) { *h = full(); h.Sewn = append(h.Sewn, sewn(97, 98)) }, false},
		{"7 sheets of a paper", func(h *api.Heap) { *h = blank(7) }, true},
		{"8 sheets of a paper", func(h *api.Heap) { *h = blank(8) }, false},
		{"a sheet that is none", func(h *api.Heap) { h.Strays[2].Holes = 4096 }, false},
		{"sheets out of order", func(h *api.Heap) { h.Strays[2], h.Strays[3] = h.Strays[3], h.Strays[2] }, false},
		{"an Id twice", func(h *api.Heap) { h.Strays[3].Id, h.Sewn = 4, nil }, false},
		{"a thread from no sheet", func(h *api.Heap) { h.Sewn[0].From = 3 }, false},
		{"a thread to no sheet", func(h *api.Heap) { h.Sewn[1].To = 5 }, false},
		{"a thread from 0", func(h *api.Heap) { h.Sewn[0].From = 0 }, false},
		{"a thread to 0", func(h *api.Heap) { h.Sewn[1].To = 0 }, false},
		{"a thread to itself", func(h *api.Heap) { h.Sewn = []api.Sewn{sewn(2, 2)} }, false},
		{"a thread between two papers", func(h *api.Heap) { h.Strays[3].Paper = 4 }, false},
		{"threads in another paper", func(h *api.Heap) { h.Strays[0].Paper = 4; h.Sewn = h.Sewn[1:] }, true},
		{"threads out of order", func(h *api.Heap) { h.Sewn[0], h.Sewn[1] = h.Sewn[1], h.Sewn[0] }, false},
		{"a From twice", func(h *api.Heap) { h.Sewn[1].From = 1 }, false},
		{"a To twice", func(h *api.Heap) { h.Sewn[1].To = 4 }, false},
		{"a To twice, with another one between", func(h *api.Heap) { h.Sewn = []api.Sewn{sewn(1, 4), sewn(2, 7), sewn(7, 4)} }, false},
		{"falling Tos", func(h *api.Heap) { h.Sewn = []api.Sewn{sewn(1, 7), sewn(2, 4), sewn(4, 1)} }, true},
		{"a ring of threads", func(h *api.Heap) { h.Sewn = []api.Sewn{sewn(1, 2), sewn(2, 1)} }, true},
		{"threads against words", func(h *api.Heap) { h.Sewn = []api.Sewn{sewn(4, 2)} }, true},
	} {
		h := example(sewn(1, 4), sewn(2, 7))
		c.change(&h)
		expect(t, "Check of "+c.name, results(leaf.Check(h)), verdict(c.valid, api.ErrHeap))
		if _, e := leaf.Count(h, 3); e != verdict(c.valid, api.ErrHeap) {
			t.Errorf("Count of %s: %v", c.name, e)
		}
	}
}

// args are arguments, of which each call takes some.
type args struct {
	h                          api.Heap
	paper, hole, id, a, b, nth int
	order, holes               []int
}

// call is a function, what it takes and asks for beside a heap, in words, and its other results with an error.
type call struct {
	name, takes string
	none        result
	ask         func(a args) result
}

func calls() []call {
	list, span := results(none), results(api.Span{})
	return []call{
		{"Found", "", results(api.Heap{}), func(a args) result { return results(leaf.Found(a.h, sheet(50, 1, 2, 3, 4))) }},
		{"Without", "id", results(api.Heap{}), func(a args) result { return results(leaf.Without(a.h, a.id)) }},
		{"Bundle", "paper", list, func(a args) result { return results(leaf.Bundle(a.h, a.paper)) }},
		{"Follows", "pair", results(0), func(a args) result { return results(leaf.Follows(a.h, a.a, a.b)) }},
		{"CheckOrder", "paper order", nil, func(a args) result { return results(leaf.CheckOrder(a.h, a.paper, a.order)) }},
		{"Order", "paper asks", list, func(a args) result { return results(leaf.Order(a.h, a.paper)) }},
		{"Count", "paper", results(0), func(a args) result { return results(leaf.Count(a.h, a.paper)) }},
		{"Nth", "paper nth", list, func(a args) result { return results(leaf.Nth(a.h, a.paper, a.nth)) }},
		{"Sure", "paper asks", list, func(a args) result { return results(leaf.Sure(a.h, a.paper)) }},
		{"May", "paper asks", list, func(a args) result { return results(leaf.May(a.h, a.paper)) }},
		{"Place", "id asks", span, func(a args) result { return results(leaf.Place(a.h, a.id)) }},
		{"Ahead", "pair sewn asks", results(0), func(a args) result { return results(leaf.Ahead(a.h, a.a, a.b)) }},
		{"Ends", "paper asks", results(none, none), func(a args) result { return results(leaf.Ends(a.h, a.paper)) }},
		{"Hole", "hole order", span, func(a args) result { return results(leaf.Hole(a.h, a.order, a.hole)) }},
		{"Conflict", "paper apt", list, func(a args) result { return results(leaf.Conflict(a.h, a.paper)) }},
		{"CheckConflict", "paper apt", nil, func(a args) result { return results(leaf.CheckConflict(a.h, a.paper, a.holes)) }},
		{"Moved", "id asks", list, func(a args) result { return results(leaf.Moved(a.h, a.id)) }},
	}
}

// TestP51Errors gives each function ever fewer wrong arguments: the error named first is due.
func TestP51Errors(t *testing.T) {
	for _, c := range calls() {
		a := args{h: wrong(), nth: -1}
		takes := func(word string) bool { return slices.Contains(strings.Fields(c.takes), word) }
		refuse := func(when bool, e api.Errno) {
			t.Helper()
			got := c.ask(a)
			if is := got[len(got)-1] == e; is != when {
				t.Errorf("%s of %v: %v; the error %v is expected: %v", c.name, a, got, e, when)
			} else if is {
				expect(t, c.name+" with an error", got[:len(got)-1], c.none...)
			}
		}
		refuse(true, api.ErrHeap)
		a.h = torn()
		for _, a.paper = range []int{0, -1, 1000, math.MinInt, math.MaxInt} {
			a.hole = 0
			refuse(takes("paper"), api.ErrArg)
			a.hole = a.paper | 16
			refuse(takes("paper") || takes("hole"), api.ErrArg)
		}
		a.paper, a.hole = 3, 12
		refuse(takes("hole"), api.ErrArg)
		a.hole = 11
		for _, pair := range [][2]int{{0, 1}, {1, 0}, {3, 1}, {1, 3}, {3, 3}, {-1, 9}, {math.MaxInt, 1}, {1, math.MinInt}} {
			a.a, a.b, a.id = pair[0], pair[1], min(pair[0], pair[1], 0)
			refuse(takes("pair") || takes("id"), api.ErrLoose)
		}
		a.id = 1
		for _, pair := range [][2]int{{1, 1}, {9, 9}, {1, 9}, {9, 1}} {
			a.a, a.b = pair[0], pair[1]
			refuse(takes("sewn"), api.ErrSewn)
		}
		a.a, a.b = 1, 2
		refuse(takes("asks"), api.ErrHoles)
		for _, a.order = range [][]int{nil, {0}, {3}, {1}, {1, 2, 4}, {1, 2, 4, 7}} {
			refuse(takes("order"), api.ErrOrder)
		}
		for _, a.nth = range []int{-1, 0, 1, 999, 1000, math.MinInt, math.MaxInt} {
			refuse(takes("nth"), api.ErrNone)
		}
		a.holes = []int{0, 1, 2}
		refuse(false, api.ErrApt)
		a.h, a.order, a.nth = example(), []int{1, 2, 4, 7}, 2
		refuse(takes("apt"), api.ErrApt)
		refuse(c.name == "Hole", api.ErrNone)
	}
}

// TestP51MovedErrors asks for an order with a sheet and without it.
func TestP51MovedErrors(t *testing.T) {
	h := api.Heap{Strays: []api.Stray{sheet(1, 10, 20, 0, 0), sheet(2, 21, 30, 0, 0), sheet(7, 20, 21, 0, 0)}}
	expect(t, "Order with the sheet 7", results(leaf.Order(h, 3)), []int{1, 7, 2}, api.OK)
	expect(t, "Moved of what joins two others", results(leaf.Moved(h, 7)), none, api.ErrHoles)
	expect(t, "Moved of the last one", results(leaf.Moved(h, 2)), []api.Sewn{sewn(7, 2)}, api.OK)
	h.Strays = append(h.Strays, sheet(8, 50, 60, 0, 0))
	expect(t, "Order with the sheet 8", results(leaf.Order(h, 3)), none, api.ErrHoles)
	expect(t, "Moved of what joins nothing", results(leaf.Moved(h, 8)), none, api.ErrHoles)
	expect(t, "Moved with no order at all", results(leaf.Moved(h, 1)), none, api.ErrHoles)
	h = example(sewn(7, 1))
	expect(t, "Moved of one that is sewn", results(leaf.Moved(h, 7)), []api.Sewn{sewn(7, 1)}, api.OK)
}

// TestP51Any calls all functions with random arguments, most of them wrong: they return.
func TestP51Any(t *testing.T) {
	r := rand.New(rand.NewPCG(54, 5))
	number := func() int {
		return []int{math.MinInt, -1, 0, 1, 2, 3, 11, 12, 24, 63, 64, 99, 100, 999, 1000, 4095, 4096, math.MaxInt}[r.IntN(18)]
	}
	list := func() []int {
		l := make([]int, r.IntN(4))
		for i := range l {
			l[i] = number()
		}
		return l
	}
	for range 2000 {
		h := someHeap(r, 4)
		s := api.Stray{Id: number(), Paper: number(), First: number(), Catch: number(), Holes: number(), Unsure: number()}
		switch r.IntN(4) {
		case 0:
			h.Strays = append(h.Strays, s)
		case 1:
			h.Sewn = append(h.Sewn, sewn(number(), number()))
		case 2:
			h.Strays = append(h.Strays, h.Strays...)
		}
		leaf.CheckStray(s)
		leaf.Found(h, s)
		a := args{h: h, paper: number(), hole: number(), id: number(), a: number(), b: number(), nth: number(), order: list(), holes: list()}
		for _, c := range calls() {
			c.ask(a)
		}
		leaf.CheckOrder(h, 3, a.order)
		leaf.CheckConflict(h, 3, a.holes)
		leaf.Nth(h, 3, a.nth)
	}
}

// TestP51Many hands in lists that are much too long.
func TestP51Many(t *testing.T) {
	long := make([]int, 1<<20)
	for i := range long {
		long[i] = 1
	}
	h := api.Heap{Strays: slices.Repeat([]api.Stray{sheet(1, 0, 0, 0, 0)}, 1<<20), Sewn: slices.Repeat([]api.Sewn{sewn(1, 2)}, 1<<20)}
	for _, c := range calls() {
		if got := c.ask(args{h: h, order: long, holes: long}); got[len(got)-1] != api.ErrHeap {
			t.Errorf("%s: %v", c.name, got[len(got)-1])
		}
	}
	h.Strays = blank(3).Strays
	expect(t, "Check with many threads", results(leaf.Check(h)), api.ErrHeap)
	expect(t, "CheckOrder", results(leaf.CheckOrder(example(), 3, long)), api.ErrOrder)
	expect(t, "Hole", results(leaf.Hole(example(), long, 0)), api.Span{}, api.ErrOrder)
	expect(t, "CheckConflict", results(leaf.CheckConflict(torn(), 3, long)), api.ErrApt)
}

// TestP51Memory changes what was returned: what was handed in stays as it was.
func TestP51Memory(t *testing.T) {
	h := example(sewn(1, 2), sewn(2, 4))
	more, _ := leaf.Found(h, sheet(3, 0, 0, 0, 0))
	less, _ := leaf.Without(h, 7)
	for _, other := range []api.Heap{more, less} {
		for i := range other.Strays {
			other.Strays[i] = api.Stray{Id: 77}
		}
		for i := range other.Sewn {
			other.Sewn[i] = sewn(77, 77)
		}
	}
	// Room behind the lists is not written to.
	h.Strays, h.Sewn = slices.Grow(h.Strays, 5), slices.Grow(h.Sewn, 5)
	spare := h.Strays[:5]
	leaf.Found(h, sheet(50, 0, 0, 0, 0))
	expect(t, "the room behind the sheets", results(spare[4]), api.Stray{})
	order, holes := []int{1, 2, 4, 7}, []int{3, 1, 2}
	for _, c := range calls() {
		for _, v := range c.ask(args{h: h, paper: 3, id: 7, a: 1, b: 2, hole: 1, order: order, holes: holes}) {
			switch l := v.(type) {
			case []int:
				for i := range l {
					l[i] = 77
				}
			case []api.Sewn:
				for i := range l {
					l[i] = sewn(77, 77)
				}
			}
		}
	}
	expect(t, "the heap", results(h), example(sewn(1, 2), sewn(2, 4)))
	expect(t, "the lists handed in", results(fmt.Sprint(order, holes)), "[1 2 4 7] [3 1 2]")
}
