package leaf_test

import (
	"fmt"
	"math/rand/v2"
	"slices"
	"testing"

	"parvise/api"
	"parvise/leaf"
)

// truth is what the chapter's terms say of the paper 3 of a heap, list by list.
type truth struct {
	h      api.Heap
	ids    []int
	all    [][]int // the lists of all Ids, each once, in order
	worded [][]int // those that would be orders if there were no holes
	orders [][]int
}

func truthOf(h api.Heap) *truth {
	o := &truth{h: h, ids: ids(h, 3)}
	o.try(nil)
	for _, list := range o.all {
		if o.agrees(list) {
			o.worded = append(o.worded, list)
		}
	}
	for _, list := range o.worded {
		if o.broken(list) == 0 {
			o.orders = append(o.orders, list)
		}
	}
	return o
}

// try adds all lists that begin with some Ids, in order.
func (o *truth) try(begun []int) {
	if len(begun) == len(o.ids) {
		o.all = append(o.all, slices.Clone(begun))
	}
	for _, id := range o.ids {
		if !slices.Contains(begun, id) {
			o.try(append(begun, id))
		}
	}
}

func (o *truth) sheet(id int) api.Stray {
	return o.h.Strays[slices.IndexFunc(o.h.Strays, func(s api.Stray) bool { return s.Id == id })]
}

// follows answers whether b may follow a.
func (o *truth) follows(a, b int) int {
	from, to := o.sheet(a), o.sheet(b)
	if a == b || from.Paper != to.Paper || from.Catch != to.First && from.Catch != 0 && to.First != 0 {
		return api.No
	}
	bound := false
	for _, s := range o.h.Sewn {
		if s.From == a && s.To != b || s.To == b && s.From != a {
			return api.No
		}
		bound = bound || s.From == a
	}
	if bound || from.Catch != 0 && to.First != 0 {
		return api.Yes
	}
	return api.Maybe
}

// agrees reports whether a list obeys words and threads.
func (o *truth) agrees(list []int) bool {
	for i := 1; i < len(list); i++ {
		if o.follows(list[i-1], list[i]) == api.No {
			return false
		}
	}
	for _, s := range o.h.Sewn {
		if from := slices.Index(list, s.From); from >= 0 && (from+1 == len(list) || list[from+1] != s.To) {
			return false
		}
	}
	return true
}

// broken returns the bits of the holes that are broken in a list.
func (o *truth) broken(list []int) int {
	bits := 0
	for hole := range api.MaxWorm {
		first, last := len(list), -1
		for i, id := range list {
			if o.sheet(id).Holes>>hole%2 == 1 {
				first, last = min(first, i), i
			}
		}
		for i := first; i < last; i++ {
			if s := o.sheet(list[i]); (s.Holes|s.Unsure)>>hole%2 == 0 {
				bits |= 1 << hole
			}
		}
	}
	return bits
}

// apart reports whether there is no order with the holes of some bits.
func (o *truth) apart(bits int) bool {
	for _, list := range o.worded {
		if o.broken(list)&bits == 0 {
			return false
		}
	}
	return true
}

// conflict returns the first of the shortest lists of holes with which there is no order.
func (o *truth) conflict() []int {
	for size := range api.MaxWorm + 1 {
		if l, is := o.among(0, size, 0); is {
			return l
		}
	}
	return nil
}

// among returns the first list of so many holes, none less than hole, with which, together with some bits, there is no order; and whether there is one.
func (o *truth) among(hole, size, bits int) ([]int, bool) {
	if size == 0 {
		return nil, o.apart(bits)
	}
	for ; hole < api.MaxWorm; hole++ {
		if l, is := o.among(hole+1, size-1, bits|1<<hole); is {
			return append([]int{hole}, l...), true
		}
	}
	return nil, false
}

// isConflict reports whether there is no order with some holes, but one without any one of them.
func (o *truth) isConflict(holes []int) bool {
	bits := 0
	for i, hole := range holes {
		if hole < 0 || hole > 11 || i > 0 && holes[i-1] >= hole {
			return false
		}
		bits |= 1 << hole
	}
	for _, hole := range holes {
		if o.apart(bits &^ (1 << hole)) {
			return false
		}
	}
	return o.apart(bits)
}

// pairs returns the neighbours that are so in at least so many orders, in order.
func (o *truth) pairs(least int) []api.Sewn {
	var l []api.Sewn
	for _, a := range o.ids {
		for _, b := range o.ids {
			n := 0
			for _, order := range o.orders {
				if i := slices.Index(order, a); i+1 < len(order) && order[i+1] == b {
					n++
				}
			}
			if n >= least {
				l = append(l, sewn(a, b))
			}
		}
	}
	return l
}

// sure and may are for those who have an order.
func (o *truth) sure() []api.Sewn { return o.pairs(len(o.orders)) }

func (o *truth) may() []api.Sewn { return o.pairs(1) }

func (o *truth) place(id int) api.Span {
	span := api.Span{First: len(o.ids), Last: -1}
	for _, order := range o.orders {
		i := slices.Index(order, id)
		span = api.Span{First: min(span.First, i), Last: max(span.Last, i)}
	}
	return span
}

func (o *truth) ahead(a, b int) int {
	n := 0
	for _, order := range o.orders {
		if slices.Index(order, a) < slices.Index(order, b) {
			n++
		}
	}
	switch n {
	case 0:
		return api.No
	case len(o.orders):
		return api.Yes
	}
	return api.Maybe
}

// ends returns the sheets that are in some order at a place, counted from its end if end is set.
func (o *truth) ends(end bool) []int {
	var l []int
	for _, order := range o.orders {
		if len(order) == 0 {
			continue
		}
		if end {
			l = append(l, order[len(order)-1])
		} else {
			l = append(l, order[0])
		}
	}
	slices.Sort(l)
	return slices.Compact(l)
}

// moved returns the neighbours that are sure just with a sheet, or just without it, and the error.
func (o *truth) moved(id int) ([]api.Sewn, api.Errno) {
	less := cloned(o.h)
	less.Strays = slices.DeleteFunc(less.Strays, func(s api.Stray) bool { return s.Id == id })
	less.Sewn = slices.DeleteFunc(less.Sewn, func(s api.Sewn) bool { return s.From == id || s.To == id })
	other := truthOf(less)
	if len(o.orders) == 0 || len(other.orders) == 0 {
		return nil, api.ErrHoles
	}
	var l []api.Sewn
	with, without := o.sure(), other.sure()
	for _, a := range o.ids {
		for _, b := range o.ids {
			if pair := sewn(a, b); slices.Contains(with, pair) != slices.Contains(without, pair) {
				l = append(l, pair)
			}
		}
	}
	return l, api.OK
}

// TestP51Truth holds all answers about random heaps against all lists of their sheets.
func TestP51Truth(t *testing.T) {
	orderly, wide, clash := 0, 0, [4]int{}
	eachHeap(t, 51, 2000, 5, func(r *rand.Rand, h api.Heap) {
		o := truthOf(h)
		checkOrders(t, o)
		checkAnswers(t, o)
		checkConflicts(t, r, o)
		switch n := len(o.orders); {
		case n == 0 && len(o.worded) > 0:
			clash[min(3, len(o.conflict()))]++
		case n > 1:
			wide++
			orderly++
		case n > 0:
			orderly++
		}
	})
	if orderly < 1000 || wide < 700 || clash[2] < 50 {
		t.Errorf("%d heaps have an order, %d have several, in %v no hole may be right", orderly, wide, clash)
	}
}

// TestP51Seven is TestP51Truth for papers with as many sheets as may be.
func TestP51Seven(t *testing.T) {
	r := rand.New(rand.NewPCG(511, 5))
	for many := 0; many < 25; {
		h := someHeap(r, api.MaxBundle)
		if len(ids(h, 3)) < api.MaxBundle {
			continue
		}
		many++
		o := truthOf(h)
		checkAnswers(t, o)
		checkConflicts(t, r, o)
		expect(t, "Count", results(leaf.Count(h, 3)), min(len(o.orders), api.MaxOrders), api.OK)
		if t.Failed() {
			t.Fatalf("heap %+v", h)
		}
	}
}

// checkOrders checks what is about orders, one by one.
func checkOrders(t *testing.T, o *truth) {
	t.Helper()
	e := verdict(len(o.orders) > 0, api.ErrHoles)
	expect(t, "Check", results(leaf.Check(o.h)), api.OK)
	expect(t, "Bundle", results(leaf.Bundle(o.h, 3)), o.ids, api.OK)
	expect(t, "Order", results(leaf.Order(o.h, 3)), slices.Concat(o.orders[:min(1, len(o.orders))]...), e)
	expect(t, "Count", results(leaf.Count(o.h, 3)), len(o.orders), api.OK)
	for n, order := range o.orders {
		expect(t, fmt.Sprint("Nth ", n), results(leaf.Nth(o.h, 3, n)), order, api.OK)
	}
	expect(t, "Nth behind the last one", results(leaf.Nth(o.h, 3, len(o.orders))), none, api.ErrNone)
	next := 0
	for _, list := range o.all {
		is := next < len(o.orders) && slices.Equal(list, o.orders[next])
		if is {
			next++
		}
		expect(t, fmt.Sprint("CheckOrder ", list), results(leaf.CheckOrder(o.h, 3, list)), verdict(is, api.ErrOrder))
	}
	for _, a := range o.h.Strays {
		for _, b := range o.h.Strays {
			expect(t, fmt.Sprint("Follows ", a.Id, b.Id), results(leaf.Follows(o.h, a.Id, b.Id)), o.follows(a.Id, b.Id), api.OK)
		}
	}
}

// checkAnswers checks what is about all orders.
func checkAnswers(t *testing.T, o *truth) {
	t.Helper()
	e := verdict(len(o.orders) > 0, api.ErrHoles)
	sure, may := []api.Sewn{}, []api.Sewn{}
	if e == api.OK {
		sure, may = o.sure(), o.may()
	}
	expect(t, "Sure", results(leaf.Sure(o.h, 3)), sure, e)
	expect(t, "May", results(leaf.May(o.h, 3)), may, e)
	expect(t, "Ends", results(leaf.Ends(o.h, 3)), o.ends(false), o.ends(true), e)
	for _, a := range o.ids {
		place := api.Span{}
		if e == api.OK {
			place = o.place(a)
		}
		expect(t, fmt.Sprint("Place ", a), results(leaf.Place(o.h, a)), place, e)
		moved, f := o.moved(a)
		expect(t, fmt.Sprint("Moved ", a), results(leaf.Moved(o.h, a)), moved, f)
		for _, b := range o.ids {
			if a != b {
				expect(t, fmt.Sprint("Ahead ", a, b), results(leaf.Ahead(o.h, a, b)), o.ahead(a, b), e)
			}
		}
	}
	for _, order := range o.orders[:min(3, len(o.orders))] {
		for hole := range api.MaxWorm {
			has := func(id int) bool { return o.sheet(id).Holes>>hole%2 == 1 }
			span, f := api.Span{First: slices.IndexFunc(order, has)}, api.OK
			for i, id := range order {
				if has(id) {
					span.Last = i
				}
			}
			if len(order) == 0 {
				span, f = api.Span{}, api.ErrOrder
			} else if span.First < 0 {
				span, f = api.Span{}, api.ErrNone
			}
			expect(t, fmt.Sprint("Hole ", order, hole), results(leaf.Hole(o.h, order, hole)), span, f)
		}
	}
}

// checkConflicts checks what is about holes that cannot all be right, and lists that may be such ones.
func checkConflicts(t *testing.T, r *rand.Rand, o *truth) {
	t.Helper()
	var conflict []int
	e := verdict(len(o.orders) == 0, api.ErrApt)
	if e == api.OK {
		conflict = o.conflict()
	}
	expect(t, "Conflict", results(leaf.Conflict(o.h, 3)), conflict, e)
	expect(t, "CheckConflict of Conflict", results(leaf.CheckConflict(o.h, 3, conflict)), e)
	for range 10 {
		holes := slices.Clone(conflict)
		for range r.IntN(4) {
			holes = append(holes, []int{-1, 0, 3, 9, 11, 12, r.IntN(12)}[r.IntN(7)])
		}
		if r.IntN(8) > 0 {
			slices.Sort(holes)
			holes = slices.Compact(holes)
		}
		if len(holes) > 0 && r.IntN(3) == 0 {
			i := r.IntN(len(holes))
			holes = slices.Delete(holes, i, i+1)
		}
		expect(t, fmt.Sprint("CheckConflict ", holes), results(leaf.CheckConflict(o.h, 3, holes)), verdict(o.isConflict(holes), api.ErrApt))
	}
}
