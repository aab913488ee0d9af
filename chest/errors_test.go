package chest_test

import (
	"fmt"
	"math"
	"math/rand/v2"
	"slices"
	"strings"
	"testing"

	"parvise/api"
	"parvise/chest"
)

func TestP61CheckOpening(t *testing.T) {
	for _, c := range []struct {
		name   string
		change func(o *api.Opening)
		valid  bool
	}{
		{"as it is", func(o *api.Opening) {}, true},
		{"the least", func(o *api.Opening) { *o = api.Opening{Source: 1, Register: 1} }, true},
		{"the greatest", func(o *api.Opening) { *o = full()[59] }, true},
		{"nothing", func(o *api.Opening) { *o = api.Opening{} }, false},
		{"the source 0", func(o *api.Opening) { o.Source = 0 }, false},
		{"a source less than 0", func(o *api.Opening) { o.Source = math.MinInt }, false},
		{"the source 100000", func(o *api.Opening) { o.Source = 100000 }, false},
		{"the register 0", func(o *api.Opening) { o.Register = 0 }, false},
		{"the register 2", func(o *api.Opening) { o.Register = 2 }, true},
		{"the register 3", func(o *api.Opening) { o.Register = 3 }, false},
		{"the day -1", func(o *api.Opening) { o.Day = -1 }, false},
		{"the day 0", func(o *api.Opening) { o.Day = 0 }, true},
		{"just one day", func(o *api.Opening) { o.Day = 30 }, true},
		{"a day behind the last one", func(o *api.Opening) { o.Day = 31 }, false},
		{"the last day 100000", func(o *api.Opening) { o.Through = 100000 }, true},
		{"the last day 100001", func(o *api.Opening) { o.Through = 100001 }, false},
		{"days beyond all", func(o *api.Opening) { o.Day, o.Through = math.MinInt, math.MaxInt }, false},
		{"the answer No", func(o *api.Opening) { o.Lawful = api.No }, true},
		{"the answer Yes", func(o *api.Opening) { o.Lawful = api.Yes }, true},
		{"the answer -1", func(o *api.Opening) { o.Lawful = -1 }, false},
		{"the answer 3", func(o *api.Opening) { o.Lawful = 3 }, false},
		{"no papers", func(o *api.Opening) { o.In, o.Out = nil, nil }, true},
		{"only papers that are out", func(o *api.Opening) { o.In = nil }, true},
		{"8 papers each", func(o *api.Opening) { o.In, o.Out = upTo(16)[8:], upTo(8) }, true},
		{"9 papers in", func(o *api.Opening) { o.In, o.Out = upTo(9), nil }, false},
		{"9 papers out", func(o *api.Opening) { o.In, o.Out = nil, upTo(9) }, false},
		{"the paper 0 in", func(o *api.Opening) { o.In = papers(0, 5) }, false},
		{"the paper 0 out", func(o *api.Opening) { o.Out = papers(0, 9) }, false},
		{"the paper 999 in", func(o *api.Opening) { o.In = papers(5, 999) }, true},
		{"the paper 1000 in", func(o *api.Opening) { o.In = papers(5, 1000) }, false},
		{"the paper 1000 out", func(o *api.Opening) { o.Out = papers(1000) }, false},
		{"papers out of order, in", func(o *api.Opening) { o.In = papers(7, 5) }, false},
		{"papers out of order, out", func(o *api.Opening) { o.Out = papers(10, 9) }, false},
		{"a paper twice, in", func(o *api.Opening) { o.In = papers(5, 5) }, false},
		{"a paper twice, out", func(o *api.Opening) { o.Out = papers(9, 9) }, false},
		{"a paper in and out", func(o *api.Opening) { o.Out = papers(1, 7, 9) }, false},
		{"known on the day -1", func(o *api.Opening) { o.Known = -1 }, false},
		{"known on the last day", func(o *api.Opening) { o.Known, o.Until = 100000, 0 }, true},
		{"known on the day 100001", func(o *api.Opening) { o.Known, o.Until = 100001, 0 }, false},
		{"known before the day", func(o *api.Opening) { o.Known = 0 }, true},
		{"until the next day", func(o *api.Opening) { o.Until = 9 }, true},
		{"until the same day", func(o *api.Opening) { o.Until = 8 }, false},
		{"until the day -1", func(o *api.Opening) { o.Until = -1 }, false},
		{"until the day 100000", func(o *api.Opening) { o.Until = 100000 }, true},
		{"until the day 100001", func(o *api.Opening) { o.Until = 100001 }, false},
	} {
		o := during(8, 12, opening(99999, 1, 10, 30, papers(5, 7), papers(9)))
		c.change(&o)
		expect(t, "CheckOpening of "+c.name, results(chest.CheckOpening(o)), verdict(c.valid, api.ErrOpening))
		expect(t, "Check of one opening with "+c.name, results(chest.Check([]api.Opening{o})), verdict(c.valid, api.ErrRegister))
		if _, e := chest.With(nil, o); e != verdict(c.valid, api.ErrOpening) {
			t.Errorf("With %s: %v", c.name, e)
		}
	}
}

func TestP61Check(t *testing.T) {
	for _, c := range []struct {
		name   string
		change func(l *[]api.Opening)
		valid  bool
	}{
		{"as it is", func(l *[]api.Opening) {}, true},
		{"nothing", func(l *[]api.Opening) { *l = nil }, true},
		{"as much as may be", func(l *[]api.Opening) { *l = full() }, true},
		{"61 openings", func(l *[]api.Opening) {
			*l = slices.Insert(full(), 0, opening(1, 1, 0, 0, nil, nil))
		}, false},
		{"an opening that is none", func(l *[]api.Opening) { (*l)[2].Lawful = 3 }, false},
		{"openings out of order", func(l *[]api.Opening) { slices.Reverse(*l) }, false},
		{"a source twice", func(l *[]api.Opening) { (*l)[3].Source = 3 }, false},
		{"days of two registers", func(l *[]api.Opening) { (*l)[2].Day, (*l)[2].Through = 13, 49 }, true},
		{"days next to each other", func(l *[]api.Opening) { (*l)[1].Day = 31 }, true},
		{"a common day", func(l *[]api.Opening) { (*l)[1].Day = 30 }, false},
		{"a common day, the other way round", func(l *[]api.Opening) { (*l)[0].Day, (*l)[0].Through = 60, 99 }, false},
		{"days within others", func(l *[]api.Opening) { (*l)[1].Day, (*l)[1].Through = 11, 12 }, false},
		{"days around others", func(l *[]api.Opening) { (*l)[1].Day, (*l)[1].Through = 0, 99 }, false},
		{"a common day of the second register", func(l *[]api.Opening) { (*l)[2].Through = 50 }, false},
		{"a common day of the first and the last one", func(l *[]api.Opening) { (*l)[4].Register, (*l)[4].Through = 1, 10 }, false},
	} {
		l := cloned(example())
		c.change(&l)
		expect(t, "Check of "+c.name, results(chest.Check(l)), verdict(c.valid, api.ErrRegister))
		if _, e := chest.Dates(l); e != verdict(c.valid, api.ErrRegister) {
			t.Errorf("Dates of %s: %v", c.name, e)
		}
	}
}

// TestP61Together has two openings of one register with a common day, which may not both count.
func TestP61Together(t *testing.T) {
	for _, c := range []struct {
		known, until, otherKnown, otherUntil int
		valid                                bool
	}{
		{0, 0, 0, 0, false}, {0, 5, 5, 0, true}, {0, 6, 5, 0, false}, {5, 0, 0, 5, true}, {5, 0, 0, 6, false}, {5, 6, 6, 7, true}, {5, 7, 6, 8, false},
		{0, 5, 9, 20, true}, {9, 20, 0, 5, true}, {0, 50, 9, 20, false}, {9, 20, 0, 50, false}, {100000, 0, 99999, 100000, true}, {100000, 0, 99999, 0, false}, {9, 10, 9, 10, false},
	} {
		l := []api.Opening{during(c.known, c.until, opening(3, 2, 5, 9, nil, nil)), during(c.otherKnown, c.otherUntil, opening(4, 2, 9, 12, nil, nil))}
		expect(t, fmt.Sprint("Check with the times ", c), results(chest.Check(l)), verdict(c.valid, api.ErrRegister))
		_, e := chest.With(l[:1], l[1])
		expect(t, fmt.Sprint("With with the times ", c), results(e), verdict(c.valid, api.ErrRegister))
		l[1].Register = 1
		expect(t, "Check of two registers", results(chest.Check(l)), api.OK)
	}
}

// args are arguments, of which each call takes some.
type args struct {
	l                         []api.Opening
	paper, day, known, source int
	by                        []int
	pairs                     []api.Pair
}

// call is a function, what it takes beside openings, in words, and its other results with an error.
type call struct {
	name, takes string
	none        result
	ask         func(a args) result
}

func calls() []call {
	number, list, pairs, many := results(0), results(none), results([]api.Pair{}), results([]api.Opening{})
	return []call{
		{"With", "", many, func(a args) result { return results(chest.With(a.l, opening(50, 1, 90, 99, nil, nil))) }},
		{"Without", "any", many, func(a args) result { return results(chest.Without(a.l, a.source)) }},
		{"Dates", "", list, func(a args) result { return results(chest.Dates(a.l)) }},
		{"Clashes", "known", pairs, func(a args) result { return results(chest.Clashes(a.l, a.known)) }},
		{"Fewest", "known", number, func(a args) result { return results(chest.Fewest(a.l, a.known)) }},
		{"False", "known", list, func(a args) result { return results(chest.False(a.l, a.known)) }},
		{"CheckFalse", "known by", nil, func(a args) result { return results(chest.CheckFalse(a.l, a.known, a.by)) }},
		{"Pairs", "known", pairs, func(a args) result { return results(chest.Pairs(a.l, a.known)) }},
		{"CheckPairs", "known pairs", nil, func(a args) result { return results(chest.CheckPairs(a.l, a.known, a.pairs)) }},
		{"True", "known source", number, func(a args) result { return results(chest.True(a.l, a.source, a.known)) }},
		{"Inside", "paper day known", number, func(a args) result { return results(chest.Inside(a.l, a.paper, a.day, a.known)) }},
		{"Sealed", "day known", number, func(a args) result { return results(chest.Sealed(a.l, a.day, a.known)) }},
		{"Unlawful", "known", list, func(a args) result { return results(chest.Unlawful(a.l, a.known)) }},
		{"Papers", "known", list, func(a args) result { return results(chest.Papers(a.l, a.known)) }},
		{"Content", "day known", list, func(a args) result { return results(chest.Content(a.l, a.day, a.known)) }},
		{"Moved", "known any", list, func(a args) result { return results(chest.Moved(a.l, a.source, a.known)) }},
		{"Print", "", results(""), func(a args) result { return results(chest.Print(a.l)) }},
	}
}

// TestP61Errors gives each function ever fewer wrong arguments: the error named first is due.
func TestP61Errors(t *testing.T) {
	for _, c := range calls() {
		a := args{l: wrong(), day: -1, known: -1, by: []int{9}, pairs: []api.Pair{{}}}
		takes := func(word string) bool { return slices.Contains(strings.Fields(c.takes), word) }
		refuse := func(when bool, e api.Errno) {
			t.Helper()
			got := c.ask(a)
			if is := got[len(got)-1] == e; is != when {
				t.Errorf("%s of %v: %v; the error %v is expected: %v", c.name, a, got, e, when)
			} else if is {
				expect(t, c.name+" with an error", got[:len(got)-1], c.none...)
			}
		}
		refuse(true, api.ErrRegister)
		a.l = example()
		for _, a.paper = range []int{0, -1, 1000, math.MinInt, math.MaxInt} {
			refuse(takes("paper"), api.ErrArg)
		}
		for _, a.paper = range []int{1, 999} {
			for _, day := range []int{-1, api.MaxDay + 1, math.MinInt, math.MaxInt} {
				a.day, a.known = day, 7
				refuse(takes("day"), api.ErrDay)
				a.day, a.known = 7, day
				refuse(takes("known"), api.ErrDay)
			}
		}
		for _, a.source = range []int{0, 6, -1, math.MinInt, math.MaxInt} {
			for _, day := range []int{0, api.MaxDay} {
				a.day, a.known = day, day
				refuse(takes("source"), api.ErrSource)
				refuse(takes("any"), api.ErrNone)
			}
		}
		a.source, a.known = 3, 7
		refuse(takes("source"), api.ErrSource)
		refuse(false, api.ErrNone)
		refuse(takes("by"), api.ErrCover)
		refuse(takes("pairs"), api.ErrPairs)
		a.known, a.by, a.pairs = 8, []int{3}, []api.Pair{{First: 1, Second: 3}}
		got := c.ask(a)
		expect(t, c.name+" without an error", got[len(got)-1:], api.OK)
	}
}

// TestP61Any calls all functions with random arguments, most of them wrong: they return.
func TestP61Any(t *testing.T) {
	r := rand.New(rand.NewPCG(63, 6))
	number := func() int {
		return []int{math.MinInt, -1, 0, 1, 2, 3, 4, 6, 8, 9, 60, 999, 1000, 99999, 100000, 100001, math.MaxInt}[r.IntN(17)]
	}
	list := func() []int {
		l := make([]int, r.IntN(4))
		for i := range l {
			l[i] = number()
		}
		return l
	}
	for range 3000 {
		l := someOpenings(r, 8, 12)
		o := api.Opening{Source: number(), Register: r.IntN(4), Day: number(), Through: number(), Lawful: r.IntN(4), In: list(), Out: list(), Known: number(), Until: number()}
		switch r.IntN(4) {
		case 0:
			l = append(l, o)
		case 1:
			l = append(l, l...)
		}
		chest.CheckOpening(o)
		chest.With(l, o)
		a := args{l: l, paper: number(), day: number(), known: number(), source: number(), by: list(), pairs: []api.Pair{{First: number(), Second: number()}}}
		for _, c := range calls() {
			c.ask(a)
			a.known = 3
			c.ask(a)
		}
	}
}

// TestP61Many hands in lists that are much too long.
func TestP61Many(t *testing.T) {
	const much = 1 << 20
	ones := slices.Repeat([]int{1}, much)
	pairs := slices.Repeat([]api.Pair{{First: 1, Second: 3}}, much)
	l := slices.Repeat(example(), much/8)
	for _, c := range calls() {
		if got := c.ask(args{l: l}); got[len(got)-1] != api.ErrRegister {
			t.Errorf("%s: %v", c.name, got[len(got)-1])
		}
	}
	expect(t, "CheckOpening with many papers", results(chest.CheckOpening(opening(1, 1, 0, 0, ones, ones))), api.ErrOpening)
	expect(t, "CheckFalse of many", results(chest.CheckFalse(example(), 8, ones)), api.ErrCover)
	expect(t, "CheckFalse of many that rise", results(chest.CheckFalse(example(), 8, upTo(much))), api.ErrCover)
	expect(t, "CheckPairs of many", results(chest.CheckPairs(example(), 8, pairs)), api.ErrPairs)
}

// TestP61Memory changes what was returned: what was handed in stays as it was.
func TestP61Memory(t *testing.T) {
	l, o := example(), opening(9, 1, 80, 90, papers(1, 2), papers(3))
	spoil := func(list []api.Opening) {
		for i := range list {
			for j := range list[i].In {
				list[i].In[j] = 77
			}
			for j := range list[i].Out {
				list[i].Out[j] = 77
			}
			list[i].Source = 77
		}
	}
	more, _ := chest.With(l, o)
	less, _ := chest.Without(l, 4)
	spoil(more)
	expect(t, "the openings without one", results(less), slices.Delete(example(), 3, 4))
	spoil(less)
	expect(t, "the openings handed in", results(l), example())
	expect(t, "the one handed in", results(o), opening(9, 1, 80, 90, papers(1, 2), papers(3)))
	// Room behind the list is not written to.
	l = slices.Grow(l, 5)
	spare := l[:6]
	chest.With(l, o)
	chest.Without(l, 1)
	expect(t, "the room behind the openings", results(spare[5]), api.Opening{})
	by, pairs := []int{1, 3}, []api.Pair{{First: 2, Second: 3}, {First: 1, Second: 5}}
	for _, c := range calls() {
		for _, v := range c.ask(args{l: l, paper: 5, day: 55, known: 20, source: 2, by: by, pairs: pairs}) {
			switch list := v.(type) {
			case []int:
				for i := range list {
					list[i] = 77
				}
			case []api.Pair:
				clear(list)
			case []api.Opening:
				spoil(list)
			}
		}
	}
	expect(t, "the openings asked", results(l), example())
	expect(t, "the lists handed in", results(by, pairs), []int{1, 3}, []api.Pair{{First: 2, Second: 3}, {First: 1, Second: 5}})
}
