package leaf_test

import (
	"fmt"
	"math/rand/v2"
	"slices"
	"testing"

	"parvise/api"
)

// sheet returns a sheet of the paper 3.
func sheet(id, first, catch, holes, unsure int) api.Stray {
	return api.Stray{Id: id, Paper: 3, First: first, Catch: catch, Holes: holes, Unsure: unsure}
}

func sewn(from, to int) api.Sewn { return api.Sewn{From: from, To: to} }

// example returns the heap of the chapter's examples.
func example(threads ...api.Sewn) api.Heap {
	return api.Heap{
		Strays: []api.Stray{sheet(1, 10, 20, 1, 0), sheet(2, 20, 30, 3, 0), sheet(4, 30, 0, 2, 0), sheet(7, 0, 0, 0, 2)},
		Sewn:   threads,
	}
}

// torn returns the example with one more hole, so that there is no order, and with a sheet of another paper.
func torn() api.Heap {
	h := example()
	h.Strays[0].Holes, h.Strays[2].Holes = 5, 6
	h.Strays = append(h.Strays, api.Stray{Id: 9, Paper: 4})
	return h
}

// wrong returns a heap that is not valid.
func wrong() api.Heap { return api.Heap{Strays: []api.Stray{{}}} }

// blank returns a heap of so many sheets of the paper 3, with the Ids from 1 on, of which nothing is known.
func blank(sheets int) api.Heap {
	var h api.Heap
	for i := range sheets {
		h.Strays = append(h.Strays, sheet(1+i, 0, 0, 0, 0))
	}
	return h
}

// full returns a heap with as much of everything as may be: of the papers 996 to 999 six sheets each.
func full() api.Heap {
	var h api.Heap
	for i := range api.MaxStrays {
		h.Strays = append(h.Strays, api.Stray{Id: 76 + i, Paper: 996 + i/6, First: api.MaxTerm, Catch: api.MaxTerm, Holes: 4094, Unsure: 1})
	}
	for paper := range 4 {
		for i := range 3 {
			h.Sewn = append(h.Sewn, sewn(76+6*paper+i, 77+6*paper+i))
		}
	}
	return h
}

// paperOf returns the heap that has only what is of one paper.
func paperOf(h api.Heap, paper int) api.Heap {
	var only api.Heap
	for _, s := range h.Strays {
		if s.Paper == paper {
			only.Strays = append(only.Strays, s)
		}
	}
	for _, s := range h.Sewn {
		if slices.Contains(ids(only, paper), s.From) {
			only.Sewn = append(only.Sewn, s)
		}
	}
	return only
}

// ids returns the Ids of the sheets of a paper.
func ids(h api.Heap, paper int) []int {
	var all []int
	for _, s := range h.Strays {
		if s.Paper == paper {
			all = append(all, s.Id)
		}
	}
	return all
}

// cloned returns a heap that may be changed.
func cloned(h api.Heap) api.Heap {
	return api.Heap{Strays: slices.Clone(h.Strays), Sewn: slices.Clone(h.Sewn)}
}

// none is an empty list.
var none []int

// result is what a call returned: all its values.
type result []any

func results(values ...any) result { return values }

// expect compares what a call returned by its print, in which nil and empty lists are the same.
func expect(t *testing.T, call string, got result, want ...any) {
	t.Helper()
	if fmt.Sprint(got...) != fmt.Sprint(want...) {
		t.Errorf("%s: %v; expected %v", call, got, want)
	}
}

// verdict is OK if something is so, and otherwise an error.
func verdict(ok bool, e api.Errno) api.Errno {
	if ok {
		return api.OK
	}
	return e
}

// story is the true order of the sheets of the paper 3, what is known of it, and where each worm truly went.
type story struct {
	heap  api.Heap
	order []int
	worms [api.MaxWorm]api.Span // no sheets if First is greater than Last
}

// someStory returns a story of at most so many sheets, of which all that is known is true; and sheets of other papers. Words are few, so that several orders may be.
func someStory(r *rand.Rand, sheets int) story {
	var s story
	for i := range max(r.IntN(sheets+1), r.IntN(sheets+1)) {
		s.order = append(s.order, 10*i+1+r.IntN(9))
	}
	r.Shuffle(len(s.order), func(i, j int) { s.order[i], s.order[j] = s.order[j], s.order[i] })
	for hole := range s.worms {
		s.worms[hole] = api.Span{First: 1}
		if n := len(s.order); n > 0 && hole%2 == 0 {
			first := r.IntN(n)
			s.worms[hole] = api.Span{First: first, Last: first + r.IntN(n-first)}
		}
	}
	unread, unsure, bound := r.IntN(9), r.IntN(6), r.IntN(4)
	word := r.IntN(4)
	for place, id := range s.order {
		one := sheet(id, word, r.IntN(4), 0, 0)
		word = one.Catch
		if r.IntN(8) < unread {
			one.First = 0
		}
		if r.IntN(8) < unread {
			one.Catch = 0
		}
		s.pierce(r, &one, place, unsure)
		s.heap.Strays = append(s.heap.Strays, one)
		if place > 0 && r.IntN(8) < bound {
			s.heap.Sewn = append(s.heap.Sewn, sewn(s.order[place-1], id))
		}
	}
	s.stray(r)
	return s
}

// pierce enters the holes of the sheet at a place, and those that it may have.
func (s story) pierce(r *rand.Rand, one *api.Stray, place, unsure int) {
	for hole, worm := range s.worms {
		has := worm.First <= place && place <= worm.Last
		switch {
		case r.IntN(12) < unsure:
			one.Unsure |= 1 << hole
		case has:
			one.Holes |= 1 << hole
		}
	}
}

// stray adds sheets of other papers, and puts all in order.
func (s *story) stray(r *rand.Rand) {
	for i := range r.IntN(6) {
		s.heap.Strays = append(s.heap.Strays, api.Stray{Id: 71 + 3*i + r.IntN(3), Paper: 1 + r.IntN(2) + 3*r.IntN(2), First: r.IntN(3), Catch: r.IntN(3), Holes: r.IntN(64)})
	}
	// Their Ids are among those of the paper 3.
	if n := len(s.heap.Strays); n > len(s.order) && len(s.order) > 0 {
		s.heap.Strays[n-1].Id = 10 * (1 + r.IntN(6))
	}
	slices.SortFunc(s.heap.Strays, func(a, b api.Stray) int { return a.Id - b.Id })
	slices.SortFunc(s.heap.Sewn, func(a, b api.Sewn) int { return a.From - b.From })
}

// someHeap returns a valid heap of at most so many sheets of the paper 3, of which, more often than not, some things that are known are false.
func someHeap(r *rand.Rand, sheets int) api.Heap {
	h := someStory(r, sheets).heap
	for range r.IntN(12) * min(1, len(h.Strays)) {
		s := &h.Strays[r.IntN(len(h.Strays))]
		switch bit := 1 << (2 * r.IntN(6)); r.IntN(8) {
		case 0:
			s.First = r.IntN(5)
		case 1:
			s.Catch = r.IntN(5)
		case 2:
			s.Holes, s.Unsure = s.Holes&^bit, s.Unsure^bit
		default:
			s.Holes, s.Unsure = s.Holes^bit, s.Unsure&^bit
		}
	}
	if own := ids(h, 3); len(own) > 1 && r.IntN(6) == 0 {
		r.Shuffle(len(own), func(i, j int) { own[i], own[j] = own[j], own[i] })
		h.Sewn = []api.Sewn{sewn(own[0], own[1])}
		if r.IntN(3) == 0 {
			h.Sewn = append(h.Sewn, sewn(own[1], own[0]))
			slices.SortFunc(h.Sewn, func(a, b api.Sewn) int { return a.From - b.From })
		}
	}
	return h
}

// eachHeap calls a function with many random heaps of at most so many sheets of the paper 3.
func eachHeap(t *testing.T, seed uint64, many, sheets int, f func(r *rand.Rand, h api.Heap)) {
	t.Helper()
	r := rand.New(rand.NewPCG(seed, 5))
	for range many {
		h := someHeap(r, sheets)
		f(r, h)
		if t.Failed() {
			t.Fatalf("heap %+v", h)
		}
	}
}
