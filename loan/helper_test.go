package loan_test

import (
	"math/rand/v2"
	"reflect"
	"slices"
	"testing"

	"parvise/api"
	"parvise/loan"
)

func days(lo, hi int) api.Range { return api.Range{Lo: lo, Hi: hi} }

func folio(paper, leaf int) api.Folio { return api.Folio{Paper: paper, Leaf: leaf} }

func receipt(source, borrower, paper, day int, leaves ...int) api.Receipt {
	return api.Receipt{Source: source, Borrower: borrower, Paper: paper, Leaves: leaves, Day: day}
}

func back(source, receipt int, day api.Range, leaves ...int) api.Return {
	return api.Return{Source: source, Receipt: receipt, Person: 1, Leaves: leaves, Day: day}
}

func sight(source, person, paper, leaf, day int) api.Sight {
	return api.Sight{Source: source, Person: person, Paper: paper, Leaf: leaf, Day: day}
}

// example returns the ledger of the chapter's examples.
func example() api.Ledger {
	l := api.Ledger{
		Papers:   []api.Paper{{Id: 1, Leaves: 3}, {Id: 2, Leaves: 1}},
		Receipts: []api.Receipt{receipt(10, 5, 1, 10, 1, 2, 3), receipt(11, 6, 1, 40, 2)},
		Returns:  []api.Return{back(20, 10, days(20, 50), 1, 2), back(21, 10, days(5, 30), 3)},
		Sights:   []api.Sight{sight(30, 5, 1, 1, 25), sight(31, 0, 1, 2, 22)},
	}
	l.Receipts[0].Known, l.Receipts[1].Known = 10, 40
	l.Returns[0].Known, l.Returns[1].Known = 60, 60
	l.Sights[0].Known, l.Sights[1].Known = 70, 80
	return l
}

// double returns a ledger with two receipts that are double.
func double() api.Ledger {
	l := example()
	l.Returns = l.Returns[1:]
	return l
}

// wrong returns a ledger that is not valid.
func wrong() api.Ledger { return api.Ledger{Papers: []api.Paper{{}}} }

// result is what a call returned: all its values.
type result []any

func results(values ...any) result { return values }

// expect compares what a call returned, taking nil and empty lists for the same.
func expect(t *testing.T, call string, got result, want ...any) {
	t.Helper()
	for i, v := range want {
		if !same(got[i], v) {
			t.Errorf("%s: %v; expected %v", call, got, want)
			return
		}
	}
}

func same(a, b any) bool {
	x, y := reflect.ValueOf(a), reflect.ValueOf(b)
	if b == nil {
		return !x.IsValid() || x.Kind() == reflect.Slice && x.Len() == 0
	}
	if x.Kind() == reflect.Slice && y.Kind() == reflect.Slice && x.Len() == 0 && y.Len() == 0 {
		return true
	}
	return reflect.DeepEqual(a, b)
}

// question is a call that asks something of a ledger, as known on a day.
type question struct {
	name string
	ask  func(l api.Ledger, known int) result
}

// questions returns all calls that ask of a ledger as known on a day, about some day.
func questions(day int) []question {
	var all []question
	add := func(name string, ask func(l api.Ledger, known int) result) {
		all = append(all, question{name, ask})
	}
	add("Telling", func(l api.Ledger, known int) result { return results(loan.Telling(l, known)) })
	add("Double", func(l api.Ledger, known int) result { return results(loan.Double(l, known)) })
	add("Clash", func(l api.Ledger, known int) result { return results(loan.Clash(l, known)) })
	add("Sound", func(l api.Ledger, known int) result { return results(loan.Sound(l, known)) })
	for person := range people + 1 {
		add("Has", func(l api.Ledger, known int) result { return results(loan.Has(l, person, day, known)) })
		add("May", func(l api.Ledger, known int) result { return results(loan.May(l, person, day, known)) })
	}
	for source := range sourcesOfSome + 1 {
		add("Days", func(l api.Ledger, known int) result { return results(loan.Days(l, source, known)) })
		add("Lies", func(l api.Ledger, known int) result { return results(loan.Lies(l, source, day, known)) })
	}
	for paper := range 3 {
		add("Whole", func(l api.Ledger, known int) result { return results(loan.Whole(l, paper+1, day, known)) })
		for leaf := range 3 {
			f := folio(paper+1, leaf+1)
			add("Where", func(l api.Ledger, known int) result { return results(loan.Where(l, f, day, known)) })
		}
	}
	return all
}

// Random ledgers have persons up to people, days up to lastDay, and sources up to sourcesOfSome.
const (
	people        = 3
	lastDay       = 7
	sourcesOfSome = 14
)

// some draws a random ledger.
type some struct {
	*rand.Rand
	l     api.Ledger
	fresh []int
}

// someLedger returns a valid ledger; most often one whose receipts agree, with few enough true days to try all.
func someLedger(r *rand.Rand) api.Ledger {
	s := some{Rand: r, fresh: r.Perm(sourcesOfSome)}
	for i := range 1 + r.IntN(3) {
		s.l.Papers = append(s.l.Papers, api.Paper{Id: i + 1, Leaves: 1 + r.IntN(3)})
	}
	for i := range r.IntN(5) {
		s.lend(i * 2)
	}
	for range r.IntN(1 + r.IntN(4)) {
		s.see()
	}
	if r.IntN(3) == 0 {
		s.contest()
	}
	slices.SortFunc(s.l.Receipts, func(a, b api.Receipt) int { return a.Source - b.Source })
	slices.SortFunc(s.l.Returns, func(a, b api.Return) int { return a.Source - b.Source })
	slices.SortFunc(s.l.Sights, func(a, b api.Sight) int { return a.Source - b.Source })
	return s.l
}

func (s *some) source() int {
	n := s.fresh[0]
	s.fresh = s.fresh[1:]
	return n + 1
}

func (s *some) times() (known, until int) {
	if s.IntN(6) == 0 {
		known = s.IntN(3)
	}
	if s.IntN(12) == 0 {
		until = known + 1 + s.IntN(2)
	}
	return known, until
}

func (s *some) days() api.Range {
	lo := s.IntN(lastDay + 1)
	return days(lo, min(lastDay, lo+s.IntN(6)))
}

func (s *some) leaves(from []int) []int {
	l := slices.DeleteFunc(slices.Clone(from), func(int) bool { return s.IntN(3) == 0 })
	if len(l) == 0 {
		return from[:1]
	}
	return l
}

// lend adds a receipt, most often of a day, and returns of it; hardly ever ones that do not tell.
func (s *some) lend(day int) {
	p := s.l.Papers[s.IntN(len(s.l.Papers))]
	if s.IntN(4) == 0 {
		day = s.IntN(lastDay)
	}
	r := receipt(s.source(), 1+s.IntN(people), p.Id, day, s.leaves([]int{1, 2, 3}[:p.Leaves])...)
	r.Known, r.Until = s.times()
	s.l.Receipts = append(s.l.Receipts, r)
	rest := r.Leaves
	for len(rest) > 0 && len(s.fresh) > 3 && s.IntN(8) > 0 {
		if s.IntN(12) == 0 {
			rest = []int{1, 2, 3}
		}
		b := back(s.source(), r.Source, s.days(), s.leaves(rest)...)
		if s.IntN(8) > 0 {
			lo := r.Day + s.IntN(2)
			b.Day = days(lo, min(lastDay, lo+s.IntN(6)))
		}
		b.Known, b.Until = s.times()
		s.l.Returns = append(s.l.Returns, b)
		rest = slices.DeleteFunc(slices.Clone(rest), func(leaf int) bool { return slices.Contains(b.Leaves, leaf) })
	}
	if s.IntN(12) == 0 {
		s.l.Returns = append(s.l.Returns, back(s.source(), 1+s.IntN(sourcesOfSome), s.days(), 1))
	}
}

func (s *some) see() {
	if len(s.fresh) == 0 {
		return
	}
	p := s.l.Papers[s.IntN(len(s.l.Papers))]
	v := sight(s.source(), s.IntN(people+1), p.Id, 1+s.IntN(p.Leaves), s.IntN(lastDay+2))
	for _, r := range s.l.Receipts {
		if s.IntN(2) == 0 {
			v.Person, v.Paper, v.Leaf, v.Day = r.Borrower*s.IntN(2), r.Paper, r.Leaves[0], r.Day+s.IntN(4)
		}
	}
	v.Known, v.Until = s.times()
	s.l.Sights = append(s.l.Sights, v)
}

// contest adds two sights of leaves that came back together, which most often contradict each other.
func (s *some) contest() {
	for _, b := range s.l.Returns {
		i := slices.IndexFunc(s.l.Receipts, func(r api.Receipt) bool { return r.Source == b.Receipt })
		if i < 0 || len(s.fresh) < 2 || b.Day.Lo == b.Day.Hi || slices.Max(b.Leaves) > s.l.Papers[s.l.Receipts[i].Paper-1].Leaves {
			continue
		}
		r, day := s.l.Receipts[i], b.Day.Lo+s.IntN(b.Day.Hi-b.Day.Lo)
		s.l.Sights = append(s.l.Sights, sight(s.source(), r.Borrower, r.Paper, b.Leaves[0], day))
		s.l.Sights = append(s.l.Sights, sight(s.source(), 0, r.Paper, b.Leaves[len(b.Leaves)-1], max(0, day-s.IntN(2))))
		return
	}
}

// eachSome calls a function with many random ledgers.
func eachSome(t *testing.T, seed uint64, many int, f func(r *rand.Rand, l api.Ledger)) {
	t.Helper()
	r := rand.New(rand.NewPCG(seed, 2))
	for range many {
		l := someLedger(r)
		if e := loan.Check(l); e != api.OK {
			t.Fatalf("Check(%v) = %v; expected 0", l, e)
		}
		f(r, l)
		if t.Failed() {
			t.Fatalf("ledger %+v", l)
		}
	}
}
