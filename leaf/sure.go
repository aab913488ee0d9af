package leaf

import (
	"maps"
	"slices"

	"parvise/api"
	"parvise/basic"
)

// Sure returns the neighbours that are so in all orders.
func Sure(h api.Heap, paper int) ([]api.Sewn, api.Errno) {
	p, e := settle(h, paper)
	if e != api.OK {
		return nil, e
	}
	counts, orders := p.tally()
	maps.DeleteFunc(counts, func(pair api.Sewn, n int) bool { return atEdge(pair) || n < orders })
	return slices.SortedFunc(maps.Keys(counts), byBoth), api.OK
}

// May returns the neighbours that are so in some order.
func May(h api.Heap, paper int) ([]api.Sewn, api.Errno) {
	p, e := settle(h, paper)
	if e != api.OK {
		return nil, e
	}
	counts, _ := p.tally()
	maps.DeleteFunc(counts, func(pair api.Sewn, _ int) bool { return atEdge(pair) })
	return slices.SortedFunc(maps.Keys(counts), byBoth), api.OK
}

// Place returns the least and the greatest place of a sheet.
func Place(h api.Heap, id int) (api.Span, api.Errno) {
	p, e := settleBy(h, id)
	if e != api.OK {
		return api.Span{}, e
	}
	var places []int
	for order := range p.orders() {
		places = append(places, slices.Index(order, id))
	}
	return spanOf(places), api.OK
}

// Ahead answers whether a is ahead of b.
func Ahead(h api.Heap, a, b int) (int, api.Errno) {
	together := basic.Verdict(isThread(h)(api.Sewn{From: a, To: b}), api.ErrSewn)
	if e := basic.First(Check(h), checkLoose(h, a, b), together); e != api.OK {
		return 0, e
	}
	p, e := settleBy(h, a)
	if e != api.OK {
		return 0, e
	}
	can, cannot := false, false
search:
	for order := range p.orders() {
		for _, id := range order {
			switch id {
			case a:
				can = true
				continue search
			case b:
				cannot = true
				continue search
			}
		}
	}
	return basic.Answer(can, cannot), api.OK
}

// Ends returns the sheets that are first in some order, and those that are last in some.
func Ends(h api.Heap, paper int) ([]int, []int, api.Errno) {
	p, e := settle(h, paper)
	if e != api.OK {
		return nil, nil, e
	}
	counts, _ := p.tally()
	var first, last []int
	for _, id := range p.ids {
		if counts[api.Sewn{From: edge, To: id}] > 0 {
			first = append(first, id)
		}
		if counts[api.Sewn{From: id, To: edge}] > 0 {
			last = append(last, id)
		}
	}
	return first, last, api.OK
}

// Hole returns the places of the first and of the last sheet of an order that has a hole.
func Hole(h api.Heap, order []int, hole int) (api.Span, api.Errno) {
	if e := basic.First(Check(h), basic.Verdict(isHole(hole), api.ErrArg)); e != api.OK {
		return api.Span{}, e
	}
	if len(order) == 0 {
		return api.Span{}, api.ErrOrder
	}
	// If the first number is not the Id of a sheet, the paper is 0, which has no sheets.
	first, _ := sheetOf(h, order[0])
	p := pileOf(h, first.Paper)
	if !p.isOrder(order) {
		return api.Span{}, api.ErrOrder
	}
	var places []int
	for place, id := range order {
		if set(p.sheets[id].Holes).has(hole) {
			places = append(places, place)
		}
	}
	if len(places) == 0 {
		return api.Span{}, api.ErrNone
	}
	return spanOf(places), api.OK
}

// Moved returns the neighbours that are sure with a sheet or without it, but not both.
func Moved(h api.Heap, id int) ([]api.Sewn, api.Errno) {
	less, e := Without(h, id)
	if e != api.OK {
		return nil, e
	}
	s, _ := sheetOf(h, id)
	with, e := Sure(h, s.Paper)
	if e != api.OK {
		return nil, e
	}
	without, e := Sure(less, s.Paper)
	if e != api.OK {
		return nil, e
	}
	moved := slices.Concat(besides(with, without), besides(without, with))
	slices.SortFunc(moved, byBoth)
	return moved, api.OK
}

// settleBy is settle for the paper of a sheet.
func settleBy(h api.Heap, id int) (pile, api.Errno) {
	if e := basic.First(Check(h), checkLoose(h, id)); e != api.OK {
		return pile{}, e
	}
	s, _ := sheetOf(h, id)
	return settle(h, s.Paper)
}

// tally returns in how many orders there are which neighbours, the edge among them, and how many orders there are.
func (p pile) tally() (map[api.Sewn]int, int) {
	counts, orders := map[api.Sewn]int{}, 0
	for order := range p.orders() {
		orders++
		for pair := range neighbours(order) {
			counts[pair]++
		}
	}
	return counts, orders
}

func atEdge(pair api.Sewn) bool { return pair.From == edge || pair.To == edge }

// besides returns the neighbours of a list that another one has not.
func besides(l, others []api.Sewn) []api.Sewn {
	return slices.DeleteFunc(slices.Clone(l), func(pair api.Sewn) bool { return slices.Contains(others, pair) })
}

// spanOf returns the least and the greatest of some places.
func spanOf(places []int) api.Span {
	return api.Span{First: slices.Min(places), Last: slices.Max(places)}
}
