package leaf

import (
	"iter"
	"slices"

	"parvise/api"
	"parvise/basic"
)

// CheckOrder reports whether a list is an order of a paper.
func CheckOrder(h api.Heap, paper int, order []int) api.Errno {
	p, e := open(h, paper)
	if e != api.OK {
		return e
	}
	return basic.Verdict(p.isOrder(order), api.ErrOrder)
}

// Order returns the first order.
func Order(h api.Heap, paper int) ([]int, api.Errno) {
	p, e := open(h, paper)
	if e != api.OK {
		return nil, e
	}
	return p.first()
}

// Count returns how many orders there are, at most MaxOrders.
func Count(h api.Heap, paper int) (int, api.Errno) {
	p, e := open(h, paper)
	if e != api.OK {
		return 0, e
	}
	n := 0
	for range p.orders() {
		n++
		if n == api.MaxOrders {
			break
		}
	}
	return n, api.OK
}

// Nth returns the order that has n ahead of it.
func Nth(h api.Heap, paper, n int) ([]int, api.Errno) {
	p, e := open(h, paper)
	if e != api.OK {
		return nil, e
	}
	if !basic.Within(n, 0, api.MaxOrders-1) {
		return nil, api.ErrNone
	}
	for order := range p.orders() {
		if n == 0 {
			return order, api.OK
		}
		n--
	}
	return nil, api.ErrNone
}

// pile is the sheets of a paper.
type pile struct {
	ids    []int
	sheets map[int]api.Stray
	near   map[api.Sewn]bool // who may be right ahead of whom, the edge among them
}

// edge is ahead of the first sheet, and behind the last one.
const edge = 0

func pileOf(h api.Heap, paper int) pile {
	p := pile{ids: bundle(h, paper), sheets: map[int]api.Stray{}, near: map[api.Sewn]bool{}}
	for _, id := range p.ids {
		p.sheets[id], _ = sheetOf(h, id)
	}
	ends := slices.Concat([]int{edge}, p.ids)
	for _, from := range ends {
		for _, to := range ends {
			pair := api.Sewn{From: from, To: to}
			if from == edge || to == edge {
				p.near[pair] = !tears(h, pair)
			} else {
				p.near[pair] = follows(h, pair) != api.No
			}
		}
	}
	return p
}

// open returns the pile of a paper, or the first error.
func open(h api.Heap, paper int) (pile, api.Errno) {
	if e := basic.First(Check(h), basic.CheckPaper(paper)); e != api.OK {
		return pile{}, e
	}
	return pileOf(h, paper), api.OK
}

// settle is open for those who ask for an order.
func settle(h api.Heap, paper int) (pile, api.Errno) {
	p, e := open(h, paper)
	if e != api.OK {
		return pile{}, e
	}
	_, e = p.first()
	return p, e
}

// first returns the first order, or ErrHoles if there is none.
func (p pile) first() ([]int, api.Errno) {
	for order := range p.orders() {
		return order, api.OK
	}
	return nil, api.ErrHoles
}

// orders yields all orders, in order.
func (p pile) orders() iter.Seq[[]int] {
	return func(yield func([]int) bool) {
		for list := range p.lists() {
			if p.broken(list) == 0 && !yield(list) {
				return
			}
		}
	}
}

// lists yields, in order, what would be the orders if there were no holes.
func (p pile) lists() iter.Seq[[]int] {
	return func(yield func([]int) bool) {
		var search func(begun []int) bool
		search = func(begun []int) bool {
			last := begun[len(begun)-1]
			if len(begun) > len(p.ids) {
				return !p.near[api.Sewn{From: last, To: edge}] || yield(slices.Clone(begun[1:]))
			}
			for _, id := range p.ids {
				may := p.near[api.Sewn{From: last, To: id}] && !slices.Contains(begun, id)
				if may && !search(append(begun, id)) {
					return false
				}
			}
			return true
		}
		search([]int{edge})
	}
}

// isOrder reports whether a list is an order.
func (p pile) isOrder(list []int) bool {
	if !slices.Equal(slices.Sorted(slices.Values(list)), p.ids) {
		return false
	}
	for pair := range neighbours(list) {
		if !p.near[pair] {
			return false
		}
	}
	return p.broken(list) == 0
}

// broken returns the holes that a list breaks.
func (p pile) broken(list []int) set {
	var begun, ended, broken set
	for _, id := range list {
		s := p.sheets[id]
		broken |= ended & set(s.Holes)
		begun |= set(s.Holes)
		ended |= begun &^ set(s.Holes|s.Unsure)
	}
	return broken
}

// neighbours yields who is right ahead of whom in a list, the edge at both ends.
func neighbours(list []int) iter.Seq[api.Sewn] {
	return func(yield func(api.Sewn) bool) {
		from := edge
		for _, to := range slices.Concat(list, []int{edge}) {
			if !yield(api.Sewn{From: from, To: to}) {
				return
			}
			from = to
		}
	}
}
