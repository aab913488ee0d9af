package shelf_test

import (
	"fmt"
	"math"
	"math/rand/v2"
	"slices"
	"strings"
	"testing"

	"parvise/api"
	"parvise/shelf"
)

func TestP31CheckGlimpse(t *testing.T) {
	for i, c := range []struct {
		change func(g *api.Glimpse)
		valid  bool
	}{
		{func(g *api.Glimpse) {}, true},
		{func(g *api.Glimpse) { g.Source = 1 }, true}, {func(g *api.Glimpse) { g.Source = 0 }, false}, {func(g *api.Glimpse) { g.Source = 100000 }, false},
		{func(g *api.Glimpse) { g.Hole = 1 }, true}, {func(g *api.Glimpse) { g.Hole = 0 }, false}, {func(g *api.Glimpse) { g.Hole = 25 }, false},
		{func(g *api.Glimpse) { g.Marks = nil }, true}, {func(g *api.Glimpse) { g.Marks = []int{999} }, true},
		{func(g *api.Glimpse) { g.Marks = []int{0, 1} }, false}, {func(g *api.Glimpse) { g.Marks = []int{1, 1000} }, false},
		{func(g *api.Glimpse) { g.Marks = []int{-1} }, false}, {func(g *api.Glimpse) { g.Marks = []int{2, 2} }, false}, {func(g *api.Glimpse) { g.Marks = []int{2, 1} }, false},
		{func(g *api.Glimpse) { g.Marks = upTo(20) }, true}, {func(g *api.Glimpse) { g.Marks = upTo(21) }, false},
		{func(g *api.Glimpse) { g.Known = api.MaxDay }, true}, {func(g *api.Glimpse) { g.Known = -1 }, false}, {func(g *api.Glimpse) { g.Known = api.MaxDay + 1 }, false},
		{func(g *api.Glimpse) { g.Known, g.Until = 7, 8 }, true}, {func(g *api.Glimpse) { g.Until = api.MaxDay }, true},
		{func(g *api.Glimpse) { g.Known, g.Until = 7, 7 }, false}, {func(g *api.Glimpse) { g.Known, g.Until = 7, 6 }, false},
		{func(g *api.Glimpse) { g.Until = api.MaxDay + 1 }, false}, {func(g *api.Glimpse) { g.Until = -1 }, false},
	} {
		g := glimpse(99999, 24, 1, 999)
		c.change(&g)
		expect(t, fmt.Sprint("CheckGlimpse ", i), results(shelf.CheckGlimpse(g)), verdict(c.valid, api.ErrGlimpse))
	}
}

func TestP31Check(t *testing.T) {
	for _, c := range []struct {
		name   string
		change func(n *api.Inventory)
		valid  bool
	}{
		{"as it is", func(n *api.Inventory) {}, true},
		{"no papers and no glimpses", func(n *api.Inventory) { n.Papers, n.Glimpses = nil, nil }, true},
		{"no holes", func(n *api.Inventory) { n.Holes, n.Papers, n.Glimpses = 0, nil, nil }, false},
		{"fewer holes", func(n *api.Inventory) { n.Holes = -1 }, false},
		{"24 holes", func(n *api.Inventory) { n.Holes = 24 }, true},
		{"25 holes", func(n *api.Inventory) { n.Holes = 25 }, false},
		{"endless holes", func(n *api.Inventory) { n.Holes = math.MaxInt }, false},
		{"as many papers as holes", func(n *api.Inventory) { n.Papers = append(n.Papers, 999) }, true},
		{"more papers than holes", func(n *api.Inventory) { n.Papers = append(n.Papers, 10, 11) }, false},
		{"20 papers", func(n *api.Inventory) { n.Holes, n.Papers = 24, upTo(20) }, true},
		{"21 papers", func(n *api.Inventory) { n.Holes, n.Papers = 24, upTo(21) }, false},
		{"papers out of order", func(n *api.Inventory) { n.Papers = []int{5, 9, 7} }, false},
		{"a paper twice", func(n *api.Inventory) { n.Papers = []int{5, 7, 7, 9} }, false},
		{"the paper 0", func(n *api.Inventory) { n.Papers = []int{0, 5, 7, 9} }, false},
		{"the paper 1000", func(n *api.Inventory) { n.Papers = []int{5, 7, 9, 1000} }, false},
		{"a glimpse that is none", func(n *api.Inventory) { n.Glimpses[2].Known = -1 }, false},
		{"a glimpse of a hole too many", func(n *api.Inventory) { n.Glimpses[4].Hole = 5 }, false},
		{"a glimpse of no paper", func(n *api.Inventory) { n.Glimpses[0].Marks = []int{5, 8} }, false},
		{"glimpses out of order", func(n *api.Inventory) { slices.Reverse(n.Glimpses) }, false},
		{"a source twice", func(n *api.Inventory) { n.Glimpses[1].Source = 1 }, false},
		{"glimpses that contradict each other", func(n *api.Inventory) { n.Glimpses[0].Marks = nil }, true},
		{"60 glimpses", func(n *api.Inventory) { *n = full() }, true},
		{"61 glimpses", func(n *api.Inventory) { *n = full(); n.Glimpses = append(n.Glimpses, glimpse(601, 1)) }, false},
	} {
		n := example()
		c.change(&n)
		expect(t, "Check of "+c.name, results(shelf.Check(n)), verdict(c.valid, api.ErrInventory))
		if _, _, e := shelf.Read(n, 1, 0); e != verdict(c.valid, api.ErrInventory) {
			t.Errorf("Read of %s: %v", c.name, e)
		}
	}
}

// args are arguments, of which each call takes some.
type args struct {
	n                          api.Inventory
	paper, hole, known, source int
}

// call is a function, what it takes and asks for beside an inventory, in words, and its other results with an error.
type call struct {
	name, takes string
	none        result
	ask         func(a args) result
}

func calls() []call {
	list, number := results(none), results(0)
	return []call{
		{"With", "", results(api.Inventory{}), func(a args) result { return results(shelf.With(a.n, glimpse(70, 1))) }},
		{"Without", "source", results(api.Inventory{}), func(a args) result { return results(shelf.Without(a.n, a.source)) }},
		{"Read", "hole known", results(none, false), func(a args) result { return results(shelf.Read(a.n, a.hole, a.known)) }},
		{"Sound", "known", results(false), func(a args) result { return results(shelf.Sound(a.n, a.known)) }},
		{"Clash", "known", list, func(a args) result { return results(shelf.Clash(a.n, a.known)) }},
		{"CheckClash", "known", nil, func(a args) result { return results(shelf.CheckClash(a.n, a.known, []int{1, 2, 5})) }},
		{"Cramped", "known", results(api.Cram{}), func(a args) result { return results(shelf.Cramped(a.n, a.known)) }},
		{"CheckCram", "known", nil, func(a args) result { return results(shelf.CheckCram(a.n, a.known, api.Cram{List: []int{5, 9}})) }},
		{"Lay", "known sound", list, func(a args) result { return results(shelf.Lay(a.n, a.known)) }},
		{"CheckLaid", "known laid", nil, func(a args) result { return results(shelf.CheckLaid(a.n, a.known, []int{1, 2, 4})) }},
		{"Lies", "paper hole known sound", number, func(a args) result { return results(shelf.Lies(a.n, a.paper, a.hole, a.known)) }},
		{"Where", "paper known sound", list, func(a args) result { return results(shelf.Where(a.n, a.paper, a.known)) }},
		{"Who", "hole known sound", list, func(a args) result { return results(shelf.Who(a.n, a.hole, a.known)) }},
		{"Empty", "hole known sound", number, func(a args) result { return results(shelf.Empty(a.n, a.hole, a.known)) }},
		{"Sure", "known sound", results([]api.Spot{}), func(a args) result { return results(shelf.Sure(a.n, a.known)) }},
		{"Again", "paper known sound few", list, func(a args) result { return results(shelf.Again(a.n, a.paper, a.known)) }},
		{"CheckAgain", "paper known sound few", nil, func(a args) result { return results(shelf.CheckAgain(a.n, a.paper, a.known, []int{9, 1})) }},
		{"Moved", "known source", list, func(a args) result { return results(shelf.Moved(a.n, a.source, a.known)) }},
	}
}

// TestP31Errors gives each function ever fewer wrong arguments: the error named first is due.
func TestP31Errors(t *testing.T) {
	for _, c := range calls() {
		a := args{n: wrong(), known: -1}
		takes := func(word string) bool { return slices.Contains(strings.Fields(c.takes), word) }
		refuse := func(when bool, e api.Errno) {
			t.Helper()
			got := c.ask(a)
			if is := got[len(got)-1] == e; is != when {
				t.Errorf("%s of %v: %v; the error %v is expected: %v", c.name, a, got, e, when)
			} else if is {
				expect(t, c.name+" with an error", got[:len(got)-1], c.none...)
			}
		}
		refuse(true, api.ErrInventory)
		a.n = example()
		for _, a.paper = range []int{0, 6, -1, math.MaxInt} {
			refuse(takes("paper"), api.ErrPaper)
		}
		a.paper = 7
		for _, a.hole = range []int{0, 5, -1, math.MinInt, math.MaxInt} {
			refuse(takes("hole"), api.ErrHole)
		}
		a.hole = 4
		for _, a.known = range []int{-1, api.MaxDay + 1, math.MinInt} {
			refuse(takes("known"), api.ErrDay)
		}
		a.known = api.MaxDay
		for _, a.source = range []int{0, 6, -1} {
			refuse(takes("source"), api.ErrNone)
		}
		a.source = 2
		a.n.Holes = 7
		refuse(takes("sound"), api.ErrFalse)
		refuse(takes("laid"), api.ErrLaid)
		a.known = 6
		refuse(takes("few"), api.ErrLong)
		a.n.Holes = 6
		refuse(c.name == "CheckAgain", api.ErrAgain)
		refuse(false, api.ErrLong)
	}
}

func TestP31LastErrors(t *testing.T) {
	n := example()
	expect(t, "Clash of a sound inventory", results(shelf.Clash(n, 6)), none, api.ErrSound)
	expect(t, "CheckClash of a sound inventory", results(shelf.CheckClash(n, 6, []int{1, 2})), api.ErrSound)
	expect(t, "CheckClash of no glimpses", results(shelf.CheckClash(n, 8, nil)), api.ErrSound)
	expect(t, "CheckClash", results(shelf.CheckClash(n, 8, []int{1, 2, 5})), api.OK)
	expect(t, "CheckClash with others", results(shelf.CheckClash(n, 8, []int{2, 4, 5})), api.OK)
	for _, by := range [][]int{{1, 2}, {1, 2, 4, 5}, {2, 1, 5}, {1, 1, 2, 5}, {1, 2, 5, 5}, {1, 2, 5, 6}, {0, 1, 2, 5}, {1, 2, 3}, {-1}, {100000}} {
		expect(t, fmt.Sprint("CheckClash ", by), results(shelf.CheckClash(n, 8, by)), api.ErrSound)
	}
	expect(t, "CheckClash of one that is not known", results(shelf.CheckClash(n, 7, []int{1, 2, 5})), api.ErrSound)
	expect(t, "Cramped of a sound inventory", results(shelf.Cramped(n, 6)), api.Cram{}, api.ErrSound)
	for _, c := range []api.Cram{
		{}, {OfHoles: true}, {List: []int{5}}, {List: []int{9, 5}}, {List: []int{9, 9}}, {List: []int{0, 9}}, {List: []int{9, 1000}}, {List: []int{9, 10}}, {List: []int{8}},
		{OfHoles: true, List: []int{2}}, {OfHoles: true, List: []int{4, 2}}, {OfHoles: true, List: []int{2, 2}}, {OfHoles: true, List: []int{2, 3}}, {OfHoles: true, List: []int{2, 3, 4}},
		{OfHoles: true, List: []int{0, 2, 4}}, {OfHoles: true, List: []int{2, 4, 5}}, {OfHoles: true, List: []int{5}}, {OfHoles: true, List: []int{-1}},
	} {
		expect(t, fmt.Sprint("CheckCram ", c), results(shelf.CheckCram(n, 8, c)), api.ErrCram)
	}
	expect(t, "CheckLaid", results(shelf.CheckLaid(n, 6, []int{1, 2, 4})), api.OK)
	for _, holes := range [][]int{nil, {1, 2}, {1, 2, 4, 3}, {1, 2, 2}, {1, 2, 3}, {2, 1, 4}, {1, 4, 2}, {1, 2, 5}, {1, 2, 0}, {-1, 2, 4}, {4, 2, 1}} {
		expect(t, fmt.Sprint("CheckLaid ", holes), results(shelf.CheckLaid(n, 6, holes)), api.ErrLaid)
	}
	for _, holes := range [][]int{{2, 1}, {1, 1}, {0, 1}, {1, 5}, {-1}, {math.MaxInt}, {3, 4}, nil} {
		expect(t, fmt.Sprint("CheckAgain ", holes), results(shelf.CheckAgain(n, 5, 5, holes)), api.ErrAgain)
	}
	expect(t, "CheckAgain of all holes", results(shelf.CheckAgain(n, 5, 5, []int{1, 2, 3, 4})), api.OK)
}

// TestP31Any calls all functions with random arguments, most of them wrong: they return.
func TestP31Any(t *testing.T) {
	r := rand.New(rand.NewPCG(33, 3))
	number := func() int {
		return []int{math.MinInt, -1, 0, 1, 2, 5, 24, 25, 999, 1000, 99999, 100000, 100001, math.MaxInt}[r.IntN(14)]
	}
	list := func() []int {
		l := make([]int, r.IntN(4))
		for i := range l {
			l[i] = number()
		}
		return l
	}
	for range 3000 {
		n, _ := someInventory(r, api.MaxHoles, api.MaxLying, 9, false)
		g := api.Glimpse{Source: number(), Hole: number(), Marks: list(), Known: number(), Until: number()}
		switch r.IntN(4) {
		case 0:
			n.Holes = number()
		case 1:
			n.Papers = list()
		case 2:
			n.Glimpses = append(n.Glimpses, g)
		}
		known := []int{number(), 1}[r.IntN(2)]
		shelf.CheckGlimpse(g)
		shelf.With(n, g)
		shelf.CheckClash(n, known, list())
		shelf.CheckCram(n, known, api.Cram{OfHoles: r.IntN(2) == 0, List: list()})
		shelf.CheckLaid(n, known, list())
		shelf.CheckAgain(n, number(), known, list())
		a := args{n: n, paper: number(), hole: number(), known: known, source: number()}
		for _, c := range calls() {
			c.ask(a)
		}
	}
}
