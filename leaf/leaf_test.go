package leaf_test

import (
	"fmt"
	"math/rand/v2"
	"slices"
	"testing"

	"parvise/api"
	"parvise/leaf"
)

func TestP51Examples(t *testing.T) {
	h := example()
	for pair, answer := range map[api.Sewn]int{sewn(1, 2): api.Yes, sewn(2, 1): api.No, sewn(4, 7): api.Maybe, sewn(1, 7): api.Maybe} {
		expect(t, fmt.Sprint("Follows ", pair), results(leaf.Follows(h, pair.From, pair.To)), answer, api.OK)
	}
	expect(t, "Count", results(leaf.Count(h, 3)), 3, api.OK)
	expect(t, "Order", results(leaf.Order(h, 3)), []int{1, 2, 4, 7}, api.OK)
	for n, order := range [][]int{{1, 2, 4, 7}, {1, 2, 7, 4}, {7, 1, 2, 4}} {
		expect(t, fmt.Sprint("Nth ", n), results(leaf.Nth(h, 3, n)), order, api.OK)
		expect(t, fmt.Sprint("CheckOrder ", order), results(leaf.CheckOrder(h, 3, order)), api.OK)
	}
	expect(t, "Nth 3", results(leaf.Nth(h, 3, 3)), none, api.ErrNone)
	expect(t, "CheckOrder 1 7 2 4", results(leaf.CheckOrder(h, 3, []int{1, 7, 2, 4})), api.ErrOrder)
	expect(t, "Sure", results(leaf.Sure(h, 3)), []api.Sewn{sewn(1, 2)}, api.OK)
	expect(t, "May", results(leaf.May(h, 3)), []api.Sewn{sewn(1, 2), sewn(2, 4), sewn(2, 7), sewn(4, 7), sewn(7, 1), sewn(7, 4)}, api.OK)
	expect(t, "Place 7", results(leaf.Place(h, 7)), api.Span{First: 0, Last: 3}, api.OK)
	expect(t, "Place 2", results(leaf.Place(h, 2)), api.Span{First: 1, Last: 2}, api.OK)
	expect(t, "Ahead 1 4", results(leaf.Ahead(h, 1, 4)), api.Yes, api.OK)
	expect(t, "Ahead 4 1", results(leaf.Ahead(h, 4, 1)), api.No, api.OK)
	expect(t, "Ahead 7 4", results(leaf.Ahead(h, 7, 4)), api.Maybe, api.OK)
	expect(t, "Ends", results(leaf.Ends(h, 3)), []int{1, 7}, []int{4, 7}, api.OK)
	expect(t, "Hole 1", results(leaf.Hole(h, []int{1, 2, 7, 4}, 1)), api.Span{First: 1, Last: 3}, api.OK)
	expect(t, "Hole 5", results(leaf.Hole(h, []int{1, 2, 4, 7}, 5)), api.Span{}, api.ErrNone)
	expect(t, "Order with a thread", results(leaf.Order(example(sewn(7, 1)), 3)), []int{7, 1, 2, 4}, api.OK)
	expect(t, "Count with a thread", results(leaf.Count(example(sewn(7, 1)), 3)), 1, api.OK)
	expect(t, "Moved", results(leaf.Moved(h, 7)), []api.Sewn{sewn(2, 4)}, api.OK)

	h.Strays[0].Holes, h.Strays[2].Holes = 5, 6
	expect(t, "Conflict", results(leaf.Conflict(h, 3)), []int{0, 1, 2}, api.OK)
	for hole, order := range [][]int{{2, 4, 1, 7}, {4, 1, 2, 7}, {1, 2, 4, 7}} {
		less := cloned(h)
		for i := range less.Strays {
			less.Strays[i].Holes &^= 1 << hole
			less.Strays[i].Unsure &^= 1 << hole
		}
		expect(t, fmt.Sprint("CheckOrder without the hole ", hole), results(leaf.CheckOrder(less, 3, order)), api.OK)
		expect(t, fmt.Sprint("CheckOrder with the hole ", hole), results(leaf.CheckOrder(h, 3, order)), api.ErrOrder)
	}
}

func TestP51Found(t *testing.T) {
	h := example(sewn(1, 2))
	for id, at := range map[int]int{3: 2, 5: 3, 8: 4, 99: 4} {
		s := sheet(id, 5, 6, 7, 8)
		more := cloned(h)
		more.Strays = slices.Insert(more.Strays, at, s)
		expect(t, fmt.Sprint("Found ", id), results(leaf.Found(h, s)), more, api.OK)
	}
	for _, s := range []api.Stray{{}, sheet(0, 0, 0, 0, 0), sheet(100, 0, 0, 0, 0), sheet(1, 0, 0, 0, 0), sheet(7, 0, 0, 0, 0), sheet(3, 1000, 0, 0, 0), sheet(3, 0, 0, 1, 1), {Id: 2, Paper: 4}} {
		expect(t, fmt.Sprint("Found ", s), results(leaf.Found(h, s)), api.Heap{}, api.ErrStray)
	}
	one := api.Heap{Strays: []api.Stray{sheet(99, 0, 0, 0, 0)}}
	expect(t, "Found the first one", results(leaf.Found(api.Heap{}, one.Strays[0])), one, api.OK)
	expect(t, "Found the 25th one", results(leaf.Found(full(), sheet(1, 0, 0, 0, 0))), api.Heap{}, api.ErrLong)
	expect(t, "Found one twice in what is full", results(leaf.Found(full(), sheet(76, 0, 0, 0, 0))), api.Heap{}, api.ErrStray)
	expect(t, "Found none in what is full", results(leaf.Found(full(), sheet(1, -1, 0, 0, 0))), api.Heap{}, api.ErrStray)
	expect(t, "Found the 8th one of a paper", results(leaf.Found(blank(7), sheet(8, 0, 0, 0, 0))), api.Heap{}, api.ErrLong)
	expect(t, "Found one twice in a full paper", results(leaf.Found(blank(7), sheet(7, 0, 0, 0, 0))), api.Heap{}, api.ErrStray)
	if _, e := leaf.Found(blank(7), api.Stray{Id: 8, Paper: 4}); e != api.OK {
		t.Errorf("Found of another paper: %v", e)
	}
	if _, e := leaf.Found(blank(6), sheet(8, 0, 0, 0, 0)); e != api.OK {
		t.Errorf("Found the 7th one: %v", e)
	}
	less := full()
	less.Strays = slices.Delete(less.Strays, 23, 24)
	expect(t, "Found the 24th one", results(leaf.Found(less, full().Strays[23])), full(), api.OK)
}

func TestP51Without(t *testing.T) {
	h := example(sewn(1, 2), sewn(2, 4), sewn(4, 7))
	for id, threads := range map[int][]api.Sewn{1: {sewn(2, 4), sewn(4, 7)}, 2: {sewn(4, 7)}, 4: {sewn(1, 2)}, 7: {sewn(1, 2), sewn(2, 4)}} {
		less := cloned(h)
		less.Strays = slices.DeleteFunc(less.Strays, func(s api.Stray) bool { return s.Id == id })
		less.Sewn = threads
		expect(t, fmt.Sprint("Without ", id), results(leaf.Without(h, id)), less, api.OK)
	}
	expect(t, "Without the last one", results(leaf.Without(blank(1), 1)), api.Heap{}, api.OK)
	expect(t, "Without of none", results(leaf.Without(api.Heap{}, 1)), api.Heap{}, api.ErrLoose)
}

func TestP51Bundle(t *testing.T) {
	h := torn()
	expect(t, "Bundle 3", results(leaf.Bundle(h, 3)), []int{1, 2, 4, 7}, api.OK)
	expect(t, "Bundle 4", results(leaf.Bundle(h, 4)), []int{9}, api.OK)
	expect(t, "Bundle 1", results(leaf.Bundle(h, 1)), none, api.OK)
	expect(t, "Bundle 999", results(leaf.Bundle(full(), 999)), []int{94, 95, 96, 97, 98, 99}, api.OK)
}

func TestP51Follows(t *testing.T) {
	words := func(catch, first int) api.Heap {
		h := blank(4)
		h.Strays[0].Catch, h.Strays[1].First = catch, first
		return h
	}
	for _, c := range []struct {
		name    string
		h       api.Heap
		threads []api.Sewn
		want    int
	}{
		{"words that agree", words(5, 5), nil, api.Yes},
		{"words that do not", words(5, 6), nil, api.No},
		{"no catchword", words(0, 5), nil, api.Maybe},
		{"no first word", words(5, 0), nil, api.Maybe},
		{"no words", words(0, 0), nil, api.Maybe},
		{"a thread, and no words", words(0, 0), []api.Sewn{sewn(1, 2)}, api.Yes},
		{"a thread, and no catchword", words(0, 5), []api.Sewn{sewn(1, 2)}, api.Yes},
		{"a thread, and words that agree", words(5, 5), []api.Sewn{sewn(1, 2)}, api.Yes},
		{"a thread, and words that do not", words(5, 6), []api.Sewn{sewn(1, 2)}, api.No},
		{"a thread from 1 to another one", words(5, 5), []api.Sewn{sewn(1, 3)}, api.No},
		{"a thread to 2 from another one", words(5, 5), []api.Sewn{sewn(3, 2)}, api.No},
		{"a thread back", words(5, 5), []api.Sewn{sewn(2, 1)}, api.Yes},
		{"threads elsewhere", words(0, 5), []api.Sewn{sewn(2, 3), sewn(3, 4), sewn(4, 1)}, api.Maybe},
	} {
		c.h.Sewn = c.threads
		expect(t, "Follows with "+c.name, results(leaf.Follows(c.h, 1, 2)), c.want, api.OK)
	}
	h := words(5, 5)
	h.Strays[0].First = 5
	expect(t, "Follows itself", results(leaf.Follows(h, 1, 1)), api.No, api.OK)
	h.Strays[0].Holes, h.Strays[2].Holes = 1, 1
	expect(t, "Follows, whatever the holes", results(leaf.Follows(h, 1, 2)), api.Yes, api.OK)
	h.Strays[1].Paper = 4
	expect(t, "Follows of two papers", results(leaf.Follows(h, 1, 2)), api.No, api.OK)
}

func TestP51CheckOrder(t *testing.T) {
	h := torn()
	h.Strays[0].Holes, h.Strays[2].Holes = 1, 2
	expect(t, "CheckOrder 9", results(leaf.CheckOrder(h, 4, []int{9})), api.OK)
	for _, order := range [][]int{nil, {}, {1, 2, 4}, {1, 2, 4, 7, 9}, {1, 2, 4, 7, 7}, {1, 2, 4, 4}, {1, 2, 4, 9}, {2, 1, 4, 7}, {0, 1, 2, 4}, {1, 2, 4, -7}, {1, 2, 4, 7, 0}, {0, 1, 2, 4, 7, 0}, {9}} {
		expect(t, fmt.Sprint("CheckOrder ", order), results(leaf.CheckOrder(h, 3, order)), api.ErrOrder)
		if len(order) == 0 || order[0] != 9 {
			expect(t, fmt.Sprint("Hole of ", order), results(leaf.Hole(h, order, 0)), api.Span{}, api.ErrOrder)
		}
	}
	expect(t, "Hole of the other paper", results(leaf.Hole(h, []int{9}, 0)), api.Span{}, api.ErrNone)

	for _, c := range []struct {
		order   []int
		threads []api.Sewn
		want    api.Errno
	}{
		{[]int{1, 2, 3}, []api.Sewn{sewn(1, 2)}, api.OK},
		{[]int{3, 1, 2}, []api.Sewn{sewn(1, 2)}, api.OK},
		{[]int{2, 3, 1}, []api.Sewn{sewn(1, 2)}, api.ErrOrder}, // 1 is last, 2 is first
		{[]int{2, 1, 3}, []api.Sewn{sewn(1, 2)}, api.ErrOrder},
		{[]int{1, 3, 2}, []api.Sewn{sewn(1, 2)}, api.ErrOrder},
		{[]int{3, 1, 2}, []api.Sewn{sewn(1, 2), sewn(3, 1)}, api.OK},
		{[]int{1, 2, 3}, []api.Sewn{sewn(1, 2), sewn(2, 1)}, api.ErrOrder},
		{[]int{1, 2, 3}, []api.Sewn{sewn(1, 2), sewn(2, 3), sewn(3, 1)}, api.ErrOrder},
	} {
		h := blank(3)
		h.Sewn = c.threads
		expect(t, fmt.Sprint("CheckOrder ", c), results(leaf.CheckOrder(h, 3, c.order)), c.want)
	}
	ring := blank(3)
	ring.Sewn = []api.Sewn{sewn(1, 2), sewn(2, 3), sewn(3, 1)}
	expect(t, "Order of a ring", results(leaf.Order(ring, 3)), none, api.ErrHoles)
	expect(t, "Conflict of a ring", results(leaf.Conflict(ring, 3)), none, api.OK)
	expect(t, "CheckConflict of a ring", results(leaf.CheckConflict(ring, 3, nil)), api.OK)
	expect(t, "CheckConflict of a ring, with a hole", results(leaf.CheckConflict(ring, 3, []int{0})), api.ErrApt)
}

// TestP51Broken is about each worm hole alone.
func TestP51Broken(t *testing.T) {
	const has, may, not = 'h', 'm', '.'
	for worm, whole := range map[string]bool{
		"....": true, "h...": true, "...h": true, ".hh.": true, "hhhh": true, "hmmh": true, "h..h": false, "h.h.": false,
		"hm.h": false, "h.mh": false, "m..m": true, "m.h.": true, "h.mm": true, ".hm.": true, "m.hm": true, "hmh.": true, "h.hm": false, "mh.h": false,
	} {
		for hole := range api.MaxWorm {
			h := blank(4)
			for i, what := range worm {
				switch what {
				case has:
					h.Strays[i].Holes = 1 << hole
				case may:
					h.Strays[i].Unsure = 1 << hole
				}
			}
			expect(t, fmt.Sprint("CheckOrder with ", worm, hole), results(leaf.CheckOrder(h, 3, []int{1, 2, 3, 4})), verdict(whole, api.ErrOrder))
		}
	}
}

// TestP51Edges asks of papers with no sheets, and with one.
func TestP51Edges(t *testing.T) {
	for _, h := range []api.Heap{{}, blank(3)} {
		paper := 1
		expect(t, "Order of no sheets", results(leaf.Order(h, paper)), none, api.OK)
		expect(t, "CheckOrder of no sheets", results(leaf.CheckOrder(h, paper, nil)), api.OK)
		expect(t, "CheckOrder of one too many", results(leaf.CheckOrder(h, paper, []int{0})), api.ErrOrder)
		expect(t, "Count of no sheets", results(leaf.Count(h, paper)), 1, api.OK)
		expect(t, "Nth of no sheets", results(leaf.Nth(h, paper, 0)), none, api.OK)
		expect(t, "Nth 1 of no sheets", results(leaf.Nth(h, paper, 1)), none, api.ErrNone)
		expect(t, "Sure of no sheets", results(leaf.Sure(h, paper)), none, api.OK)
		expect(t, "May of no sheets", results(leaf.May(h, paper)), none, api.OK)
		expect(t, "Ends of no sheets", results(leaf.Ends(h, paper)), none, none, api.OK)
		expect(t, "Conflict of no sheets", results(leaf.Conflict(h, paper)), none, api.ErrApt)
		expect(t, "CheckConflict of no sheets", results(leaf.CheckConflict(h, paper, nil)), api.ErrApt)
	}
	one := api.Heap{Strays: []api.Stray{{Id: 99, Paper: 999, First: 5, Catch: 6, Holes: 2048}}}
	expect(t, "Order of one sheet", results(leaf.Order(one, 999)), []int{99}, api.OK)
	expect(t, "Sure of one sheet", results(leaf.Sure(one, 999)), none, api.OK)
	expect(t, "Place of one sheet", results(leaf.Place(one, 99)), api.Span{}, api.OK)
	expect(t, "Ends of one sheet", results(leaf.Ends(one, 999)), []int{99}, []int{99}, api.OK)
	expect(t, "Hole of one sheet", results(leaf.Hole(one, []int{99}, 11)), api.Span{}, api.OK)
	expect(t, "Moved of one sheet", results(leaf.Moved(one, 99)), none, api.OK)
	unsure := api.Heap{Strays: []api.Stray{sheet(1, 0, 0, 0, 1)}}
	expect(t, "Hole of one that may have it", results(leaf.Hole(unsure, []int{1}, 0)), api.Span{}, api.ErrNone)
	expect(t, "Order of the fullest", results(leaf.Order(full(), 999)), []int{94, 95, 96, 97, 98, 99}, api.OK)
	expect(t, "Count of the fullest", results(leaf.Count(full(), 999)), 6, api.OK)
	expect(t, "Sure of the fullest", results(leaf.Sure(full(), 999)), []api.Sewn{sewn(94, 95), sewn(95, 96), sewn(96, 97)}, api.OK)
}

// TestP51Conflict asks for the shortest list of holes, and then the first one.
func TestP51Conflict(t *testing.T) {
	// Each of these holes breaks what the words leave: 1 2 3.
	holed := func(holes ...int) api.Heap {
		h := api.Heap{Strays: []api.Stray{sheet(1, 1, 2, 0, 0), sheet(2, 2, 3, 0, 0), sheet(3, 3, 4, 0, 0)}}
		for _, hole := range holes {
			h.Strays[0].Holes |= 1 << hole
			h.Strays[2].Holes |= 1 << hole
		}
		return h
	}
	for hole := range api.MaxWorm {
		expect(t, fmt.Sprint("Conflict of ", hole), results(leaf.Conflict(holed(hole), 3)), []int{hole}, api.OK)
		expect(t, fmt.Sprint("Conflict of 11 and ", hole), results(leaf.Conflict(holed(hole, 11), 3)), []int{hole}, api.OK)
	}
	h := holed(4, 7)
	for _, c := range []struct {
		holes []int
		want  api.Errno
	}{{[]int{4}, api.OK}, {[]int{7}, api.OK}, {[]int{4, 7}, api.ErrApt}, {[]int{5}, api.ErrApt}, {nil, api.ErrApt}, {[]int{4, 5}, api.ErrApt}, {[]int{4, 4}, api.ErrApt}, {[]int{-1}, api.ErrApt}, {[]int{12}, api.ErrApt}, {[]int{64}, api.ErrApt}} {
		expect(t, fmt.Sprint("CheckConflict ", c.holes), results(leaf.CheckConflict(h, 3, c.holes)), c.want)
	}
	// Of three sheets each is between the others by a pair of holes; the pairs 0 and 11, 1 and 10 say the same.
	h = blank(3)
	for hole, pair := range map[int][2]int{0: {0, 1}, 11: {1, 2}, 1: {0, 1}, 10: {1, 2}, 5: {0, 2}, 6: {0, 2}} {
		h.Strays[pair[0]].Holes |= 1 << hole
		h.Strays[pair[1]].Holes |= 1 << hole
	}
	expect(t, "Conflict of several", results(leaf.Conflict(h, 3)), []int{0, 5, 10}, api.OK)
	for _, c := range []struct {
		holes []int
		want  api.Errno
	}{{[]int{0, 5, 10}, api.OK}, {[]int{1, 6, 11}, api.OK}, {[]int{10, 5, 0}, api.ErrApt}, {[]int{0, 5}, api.ErrApt}, {[]int{0, 1, 5, 10}, api.ErrApt}} {
		expect(t, fmt.Sprint("CheckConflict ", c.holes), results(leaf.CheckConflict(h, 3, c.holes)), c.want)
	}
	other, _ := leaf.Found(example(), api.Stray{Id: 9, Paper: 4})
	expect(t, "CheckConflict where there is an order", results(leaf.CheckConflict(other, 4, nil)), api.ErrApt)
}

// TestP51MaxOrders counts up to as many orders as are told apart.
func TestP51MaxOrders(t *testing.T) {
	h := blank(7)
	expect(t, "Count of 5040", results(leaf.Count(h, 3)), 1000, api.OK)
	expect(t, "Nth 999", results(leaf.Nth(h, 3, 999)), []int{2, 4, 3, 6, 5, 7, 1}, api.OK)
	expect(t, "Nth 1000", results(leaf.Nth(h, 3, 1000)), none, api.ErrNone)
	expect(t, "Count of 720", results(leaf.Count(blank(6), 3)), 720, api.OK)
	expect(t, "Nth 719", results(leaf.Nth(blank(6), 3, 719)), []int{6, 5, 4, 3, 2, 1}, api.OK)
	expect(t, "Nth 720", results(leaf.Nth(blank(6), 3, 720)), none, api.ErrNone)
	// By the first 1000 orders alone none of 3 to 7 would be first.
	expect(t, "CheckOrder of the last one", results(leaf.CheckOrder(h, 3, []int{7, 6, 5, 4, 3, 2, 1})), api.OK)
	expect(t, "Sure of 5040", results(leaf.Sure(h, 3)), none, api.OK)
	may, e := leaf.May(h, 3)
	expect(t, "May of 5040", results(len(may), e), 42, api.OK)
	expect(t, "Place of 5040", results(leaf.Place(h, 1)), api.Span{Last: 6}, api.OK)
	expect(t, "Ahead of 5040", results(leaf.Ahead(h, 7, 1)), api.Maybe, api.OK)
	expect(t, "Ends of 5040", results(leaf.Ends(h, 3)), ids(h, 3), ids(h, 3), api.OK)
}

// TestP52Truth holds what is reported against the true order.
func TestP52Truth(t *testing.T) {
	r := rand.New(rand.NewPCG(52, 5))
	for range 1200 {
		s := someStory(r, 6)
		expect(t, "CheckOrder", results(leaf.CheckOrder(s.heap, 3, s.order)), api.OK)
		if _, e := leaf.Order(s.heap, 3); e != api.OK {
			t.Errorf("Order: %v", e)
		}
		checkNeighbours(t, s)
		checkPlaces(t, s)
		checkWorms(t, s)
		if t.Failed() {
			t.Fatalf("story %+v", s)
		}
	}
}

func checkNeighbours(t *testing.T, s story) {
	t.Helper()
	sure, e := leaf.Sure(s.heap, 3)
	may, f := leaf.May(s.heap, 3)
	expect(t, "Sure, May", results(e, f), api.OK, api.OK)
	var pairs []api.Sewn
	for i := 1; i < len(s.order); i++ {
		pairs = append(pairs, sewn(s.order[i-1], s.order[i]))
		if answer, _ := leaf.Follows(s.heap, s.order[i-1], s.order[i]); answer == api.No {
			t.Errorf("Follows %v: %d", pairs[i-1], answer)
		}
	}
	for _, pair := range sure {
		if !slices.Contains(pairs, pair) {
			t.Errorf("Sure: %v", pair)
		}
	}
	for _, pair := range pairs {
		if !slices.Contains(may, pair) {
			t.Errorf("May: %v, without %v", may, pair)
		}
	}
}

func checkPlaces(t *testing.T, s story) {
	t.Helper()
	for i, a := range s.order {
		if span, e := leaf.Place(s.heap, a); e != api.OK || i < span.First || i > span.Last {
			t.Errorf("Place %d: %v, %v", a, span, e)
		}
		for j, b := range s.order {
			if answer, _ := leaf.Ahead(s.heap, a, b); i < j && answer == api.No || i > j && answer == api.Yes {
				t.Errorf("Ahead %d %d: %d", a, b, answer)
			}
		}
	}
	first, last, e := leaf.Ends(s.heap, 3)
	if n := len(s.order); n > 0 && (e != api.OK || !slices.Contains(first, s.order[0]) || !slices.Contains(last, s.order[n-1])) {
		t.Errorf("Ends: %v, %v, %v", first, last, e)
	}
}

func checkWorms(t *testing.T, s story) {
	t.Helper()
	for hole, worm := range s.worms {
		span, e := leaf.Hole(s.heap, s.order, hole)
		if e == api.OK && (span.First < worm.First || span.Last > worm.Last || span.First > span.Last) {
			t.Errorf("Hole %d: %v; the worm went through %v", hole, span, worm)
		}
	}
	if holes, e := leaf.Conflict(s.heap, 3); e != api.ErrApt {
		t.Errorf("Conflict: %v, %v", holes, e)
	}
}

// TestP53Either: there is an order that is accepted, or holes that are, and not both.
func TestP53Either(t *testing.T) {
	orders, conflicts := 0, 0
	eachHeap(t, 53, 2000, 6, func(r *rand.Rand, h api.Heap) {
		order, e := leaf.Order(h, 3)
		holes, f := leaf.Conflict(h, 3)
		if e == api.OK {
			orders++
			expect(t, "CheckOrder, Conflict", results(leaf.CheckOrder(h, 3, order), f), api.OK, api.ErrApt)
		} else {
			conflicts++
			expect(t, "Order, Conflict, CheckConflict", results(e, f, leaf.CheckConflict(h, 3, holes)), api.ErrHoles, api.OK, api.OK)
		}
		for bits := r.IntN(8); bits < 1<<api.MaxWorm; bits += 1 + r.IntN(300) {
			var holes []int
			for hole := range api.MaxWorm {
				if bits>>hole%2 == 1 {
					holes = append(holes, hole)
				}
			}
			if f := leaf.CheckConflict(h, 3, holes); e == api.OK && f != api.ErrApt {
				t.Errorf("CheckConflict %v: %v", holes, f)
			}
		}
	})
	if orders < 500 || conflicts < 300 {
		t.Errorf("%d heaps have an order, %d have none", orders, conflicts)
	}
}

// nth returns all orders that Nth returns.
func nth(t *testing.T, h api.Heap) [][]int {
	t.Helper()
	count, e := leaf.Count(h, 3)
	expect(t, "Count", results(e), api.OK)
	var all [][]int
	for n := range count {
		order, e := leaf.Nth(h, 3, n)
		expect(t, fmt.Sprint("Nth ", n), results(e), api.OK)
		all = append(all, order)
	}
	return all
}

// TestP54Orders: the orders that are returned are those that are accepted, in order.
func TestP54Orders(t *testing.T) {
	eachHeap(t, 54, 800, 5, func(r *rand.Rand, h api.Heap) {
		all := nth(t, h)
		for n, order := range all {
			expect(t, fmt.Sprint("CheckOrder ", order), results(leaf.CheckOrder(h, 3, order)), api.OK)
			if n > 0 && slices.Compare(all[n-1], order) >= 0 {
				t.Errorf("Nth: %v ahead of %v", all[n-1], order)
			}
		}
		if len(all) > 0 {
			expect(t, "Order", results(leaf.Order(h, 3)), all[0], api.OK)
		}
		var accepted [][]int
		for _, list := range truthOf(h).all {
			if leaf.CheckOrder(h, 3, list) == api.OK {
				accepted = append(accepted, list)
			}
		}
		expect(t, "Nth", results(all), accepted)
	})
}

// TestP55Agree: sure neighbours are those of each accepted order, and those that may be are those of some.
func TestP55Agree(t *testing.T) {
	wide := 0
	eachHeap(t, 55, 800, 5, func(r *rand.Rand, h api.Heap) {
		sure, e := leaf.Sure(h, 3)
		may, f := leaf.May(h, 3)
		all := nth(t, h)
		expect(t, "Sure, May", results(e, f), verdict(len(all) > 0, api.ErrHoles), verdict(len(all) > 0, api.ErrHoles))
		counts := map[api.Sewn]int{}
		for _, order := range all {
			for i := 1; i < len(order); i++ {
				counts[sewn(order[i-1], order[i])]++
			}
		}
		expect(t, "May", results(len(may)), len(counts))
		for _, pair := range may {
			if n := counts[pair]; n == 0 || slices.Contains(sure, pair) != (n == len(all)) {
				t.Errorf("%v is in %d orders of %d; Sure: %v", pair, n, len(all), sure)
			}
		}
		for _, pair := range sure {
			if !slices.Contains(may, pair) {
				t.Errorf("Sure %v, May %v", sure, may)
			}
		}
		if len(may) > len(sure) {
			wide++
		}
	})
	if wide < 200 {
		t.Errorf("%d heaps have neighbours that are not sure", wide)
	}
}

// blurred returns heaps of which one thing less is known.
func blurred(h api.Heap) []api.Heap {
	var all []api.Heap
	for i, s := range h.Strays {
		blur := func(s api.Stray) {
			less := cloned(h)
			less.Strays[i] = s
			all = append(all, less)
		}
		first, catch := s, s
		first.First, catch.Catch = 0, 0
		blur(first)
		blur(catch)
		for hole := range api.MaxWorm {
			unsure := s
			unsure.Holes &^= 1 << hole
			unsure.Unsure |= 1 << hole
			if s.Holes != unsure.Holes {
				blur(unsure)
			}
		}
	}
	for i := range h.Sewn {
		less := cloned(h)
		less.Sewn = slices.Delete(less.Sewn, i, i+1)
		all = append(all, less)
	}
	return all
}

// TestP56Less: with less known, each order still is one; no more neighbours are sure, and no fewer may be.
func TestP56Less(t *testing.T) {
	more := 0
	eachHeap(t, 56, 300, 5, func(r *rand.Rand, h api.Heap) {
		orders := nth(t, h)
		if len(orders) == 0 {
			return
		}
		sure, _ := leaf.Sure(h, 3)
		may, _ := leaf.May(h, 3)
		for _, less := range blurred(h) {
			for _, order := range orders {
				expect(t, fmt.Sprint("CheckOrder ", order), results(leaf.CheckOrder(less, 3, order)), api.OK)
			}
			left, e := leaf.Sure(less, 3)
			wider, f := leaf.May(less, 3)
			expect(t, "Sure, May", results(e, f), api.OK, api.OK)
			for _, pair := range left {
				if !slices.Contains(sure, pair) {
					t.Errorf("Sure: %v, with less known %v: %+v", sure, left, less)
				}
			}
			for _, pair := range may {
				if !slices.Contains(wider, pair) {
					t.Errorf("May: %v, with less known %v: %+v", may, wider, less)
				}
			}
			if len(wider) > len(may) {
				more++
			}
		}
	})
	if more < 100 {
		t.Errorf("in %d heaps more neighbours may be", more)
	}
}

// TestP57Again: a sheet that is found and taken away again leaves the heap as it was.
func TestP57Again(t *testing.T) {
	found := 0
	eachHeap(t, 57, 1500, 6, func(r *rand.Rand, h api.Heap) {
		s := api.Stray{Id: 1 + r.IntN(99), Paper: 1 + r.IntN(4), First: r.IntN(5), Catch: r.IntN(5), Holes: r.IntN(4096)}
		more, e := leaf.Found(h, s)
		if e != api.OK {
			return
		}
		found++
		expect(t, "Check", results(leaf.Check(more)), api.OK)
		expect(t, "Without of Found", results(leaf.Without(more, s.Id)), h, api.OK)
	})
	if found < 1000 {
		t.Errorf("%d sheets are found", found)
	}
}

// TestP57Others: sheets of other papers change nothing.
func TestP57Others(t *testing.T) {
	others := 0
	eachHeap(t, 571, 1000, 5, func(r *rand.Rand, h api.Heap) {
		only := paperOf(h, 3)
		if len(only.Strays) < len(h.Strays) {
			others++
		}
		own := ids(h, 3)
		order, _ := leaf.Order(h, 3)
		holes, _ := leaf.Conflict(h, 3)
		a := args{paper: 3, hole: 2, nth: r.IntN(3), order: order, holes: holes}
		if len(own) > 0 {
			a.a, a.b, a.id = own[r.IntN(len(own))], own[r.IntN(len(own))], own[r.IntN(len(own))]
		}
		for _, c := range calls() {
			if c.name == "Found" || c.name == "Without" {
				continue
			}
			a.h = only
			alone := c.ask(a)
			a.h = h
			expect(t, c.name+" among other papers", c.ask(a), alone...)
		}
	})
	if others < 500 {
		t.Errorf("%d heaps have other papers", others)
	}
}
