package shelf_test

import (
	"fmt"
	"math/rand/v2"
	"slices"
	"testing"

	"parvise/api"
	"parvise/shelf"
)

// glimpse returns a glimpse that is known from the day 0 on.
func glimpse(source, hole int, marks ...int) api.Glimpse {
	return api.Glimpse{Source: source, Hole: hole, Marks: marks}
}

func since(known int, g api.Glimpse) api.Glimpse {
	g.Known = known
	return g
}

// example returns the inventory of the chapter's examples.
func example() api.Inventory {
	return api.Inventory{Holes: 4, Papers: []int{5, 7, 9}, Glimpses: []api.Glimpse{
		glimpse(1, 1, 5, 7), glimpse(2, 2, 5, 7), since(4, glimpse(3, 3)), since(6, glimpse(4, 2, 7, 9)), since(8, glimpse(5, 4, 7)),
	}}
}

// wrong returns an inventory that is not valid.
func wrong() api.Inventory { return api.Inventory{} }

// upTo returns the numbers from 1 to n.
func upTo(n int) []int {
	l := make([]int, n)
	for i := range l {
		l[i] = i + 1
	}
	return l
}

// full returns a sound inventory with as much of everything as may be: in the holes 1 to 20 any paper was seen, the others are empty.
func full() api.Inventory {
	n := api.Inventory{Holes: api.MaxHoles, Papers: upTo(api.MaxLying)}
	for i := range api.MaxGlimpses {
		g := glimpse(10*(i+1), 1+i%api.MaxHoles)
		if g.Hole <= api.MaxLying {
			g.Marks = upTo(api.MaxLying)
		}
		n.Glimpses = append(n.Glimpses, g)
	}
	return n
}

// none is an empty list.
var none []int

// result is what a call returned: all its values.
type result []any

func results(values ...any) result { return values }

// expect compares what a call returned by its print, in which nil and empty lists are the same.
func expect(t *testing.T, call string, got result, want ...any) {
	t.Helper()
	if fmt.Sprint(got...) != fmt.Sprint(want...) {
		t.Errorf("%s: %v; expected %v", call, got, want)
	}
}

// verdict is OK if something is so, and otherwise an error.
func verdict(ok bool, e api.Errno) api.Errno {
	if ok {
		return api.OK
	}
	return e
}

// subsets returns all lists of some of a list's elements, in their order.
func subsets(l []int) [][]int {
	all := [][]int{nil}
	for _, n := range l {
		for _, s := range all {
			all = append(all, append(slices.Clone(s), n))
		}
	}
	return all
}

// question is a call that asks something of an inventory, as known on a day.
type question struct {
	name string
	ask  func(n api.Inventory, known int) result
}

// questions returns all calls that ask of an inventory as known on a day.
func questions(n api.Inventory) []question {
	var all []question
	add := func(name string, ask func(n api.Inventory, known int) result) {
		all = append(all, question{name, ask})
	}
	add("Sound", func(n api.Inventory, known int) result { return results(shelf.Sound(n, known)) })
	add("Clash", func(n api.Inventory, known int) result { return results(shelf.Clash(n, known)) })
	add("Cramped", func(n api.Inventory, known int) result { return results(shelf.Cramped(n, known)) })
	add("Lay", func(n api.Inventory, known int) result { return results(shelf.Lay(n, known)) })
	add("Sure", func(n api.Inventory, known int) result { return results(shelf.Sure(n, known)) })
	for _, hole := range upTo(n.Holes) {
		add("Read", func(n api.Inventory, known int) result { return results(shelf.Read(n, hole, known)) })
		add("Who", func(n api.Inventory, known int) result { return results(shelf.Who(n, hole, known)) })
		add("Empty", func(n api.Inventory, known int) result { return results(shelf.Empty(n, hole, known)) })
		for _, paper := range n.Papers {
			add("Lies", func(n api.Inventory, known int) result { return results(shelf.Lies(n, paper, hole, known)) })
		}
	}
	for _, paper := range n.Papers {
		add("Where", func(n api.Inventory, known int) result { return results(shelf.Where(n, paper, known)) })
		add("Again", func(n api.Inventory, known int) result { return results(shelf.Again(n, paper, known)) })
	}
	return all
}

// someInventory returns a valid inventory, which is sound more often than not. If a true order of papers is asked for, all its glimpses are right, and that order is the other result; its glimpses have even sources.
func someInventory(r *rand.Rand, holes, papers, glimpses int, right bool) (api.Inventory, []int) {
	n := api.Inventory{Holes: 1 + r.IntN(holes)}
	for paper := range r.IntN(min(n.Holes, papers) + 1) {
		n.Papers = append(n.Papers, 2*paper+3)
	}
	truly := r.Perm(n.Holes)[:len(n.Papers)]
	for i := range truly {
		truly[i]++
	}
	for i := range r.IntN(glimpses + 1) {
		g := glimpse(2*i+2, 1+r.IntN(n.Holes))
		at := slices.Index(truly, g.Hole)
		for j, paper := range n.Papers {
			if at >= 0 && (at == j || r.IntN(2) == 0) {
				g.Marks = append(g.Marks, paper)
			}
		}
		if !right && r.IntN(3) == 0 {
			g.Hole = 1 + r.IntN(n.Holes)
		}
		if r.IntN(5) == 0 {
			g.Known = r.IntN(4)
		}
		if r.IntN(8) == 0 {
			g.Until = g.Known + 1 + r.IntN(3)
		}
		n.Glimpses = append(n.Glimpses, g)
	}
	return n, truly
}

// eachSome calls a function with many random inventories of at most so many holes, papers and glimpses.
func eachSome(t *testing.T, seed uint64, many int, most [3]int, f func(r *rand.Rand, n api.Inventory, known int)) {
	t.Helper()
	r := rand.New(rand.NewPCG(seed, 3))
	for range many {
		n, _ := someInventory(r, most[0], most[1], most[2], false)
		f(r, n, r.IntN(4))
		if t.Failed() {
			t.Fatalf("inventory %+v", n)
		}
	}
}

// few and many are for eachSome: few enough to try all arrangements, and as many as may be.
func few() [3]int  { return [3]int{5, 4, 8} }
func many() [3]int { return [3]int{api.MaxHoles, api.MaxLying, api.MaxGlimpses} }
