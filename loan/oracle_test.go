package loan_test

import (
	"fmt"
	"math/rand/v2"
	"slices"
	"testing"

	"parvise/api"
	"parvise/loan"
)

// truth is what the chapter's terms say of a ledger, word by word, with all its true days.
type truth struct {
	l        api.Ledger
	known    int
	tells    []bool
	doubles  [][]int
	trueDays [][]int
}

func truthOf(l api.Ledger, known int) *truth {
	o := &truth{l: l, known: known, tells: make([]bool, len(l.Returns))}
	for i := range l.Returns {
		o.tells[i] = o.doesTell(i)
	}
	for _, a := range l.Receipts {
		for _, b := range l.Receipts {
			if a.Source < b.Source && o.areDouble(a, b) {
				o.doubles = append(o.doubles, []int{a.Source, b.Source})
			}
		}
	}
	if len(o.doubles) == 0 {
		o.try(nil)
	}
	return o
}

func (o *truth) counts(known, until int) bool {
	return known <= o.known && (until == 0 || until > o.known)
}

func (o *truth) receiptOf(back api.Return) (api.Receipt, bool) {
	for _, r := range o.l.Receipts {
		if r.Source == back.Receipt && o.counts(r.Known, r.Until) {
			return r, true
		}
	}
	return api.Receipt{}, false
}

func (o *truth) earliest(i int) int {
	r, _ := o.receiptOf(o.l.Returns[i])
	return max(o.l.Returns[i].Day.Lo, r.Day+1)
}

func (o *truth) doesTell(i int) bool {
	b := o.l.Returns[i]
	r, found := o.receiptOf(b)
	if !o.counts(b.Known, b.Until) || !found || o.earliest(i) > b.Day.Hi {
		return false
	}
	for _, leaf := range b.Leaves {
		if !slices.Contains(r.Leaves, leaf) || o.backOf(r, leaf) >= 0 {
			return false
		}
	}
	return true
}

// backOf returns the index of the return of a leaf of a receipt, or -1.
func (o *truth) backOf(r api.Receipt, leaf int) int {
	for i, b := range o.l.Returns {
		if o.tells[i] && b.Receipt == r.Source && slices.Contains(b.Leaves, leaf) {
			return i
		}
	}
	return -1
}

func (o *truth) areDouble(a, b api.Receipt) bool {
	if !o.counts(a.Known, a.Until) || !o.counts(b.Known, b.Until) || a.Paper != b.Paper {
		return false
	}
	for _, leaf := range a.Leaves {
		if !slices.Contains(b.Leaves, leaf) {
			continue
		}
		if a.Day == b.Day {
			return true
		}
		lesser, greater := a, b
		if b.Day < a.Day {
			lesser, greater = b, a
		}
		if i := o.backOf(lesser, leaf); i < 0 || o.earliest(i) > greater.Day {
			return true
		}
	}
	return false
}

// try adds all true days that begin with some numbers; of a return that does not tell it takes only one.
func (o *truth) try(begun []int) {
	i := len(begun)
	if i == len(o.l.Returns) {
		if o.areTrue(begun, o.l.Sights) {
			o.trueDays = append(o.trueDays, slices.Clone(begun))
		}
		return
	}
	if !o.tells[i] {
		o.try(append(begun, api.MaxDay*(i%2)))
		return
	}
	for day := range lastDay + 2 {
		if o.mayBe(i, day) {
			o.try(append(begun, day))
		}
	}
}

// areTrue reports whether days are true days, with these sights alone.
func (o *truth) areTrue(list []int, sights []api.Sight) bool {
	if len(o.doubles) > 0 || len(list) != len(o.l.Returns) {
		return false
	}
	for i, n := range list {
		if n < 0 || n > api.MaxDay || o.tells[i] && !o.mayBe(i, n) {
			return false
		}
	}
	for _, s := range sights {
		if o.counts(s.Known, s.Until) && o.with(list, folio(s.Paper, s.Leaf), s.Day) != s.Person {
			return false
		}
	}
	return true
}

func (o *truth) mayBe(i, n int) bool {
	b := o.l.Returns[i]
	own, _ := o.receiptOf(b)
	if n < o.earliest(i) || n > b.Day.Hi {
		return false
	}
	for _, r := range o.l.Receipts {
		shares := slices.ContainsFunc(b.Leaves, func(leaf int) bool { return slices.Contains(r.Leaves, leaf) })
		if o.counts(r.Known, r.Until) && r.Paper == own.Paper && shares && r.Day > own.Day && n > r.Day {
			return false
		}
	}
	return true
}

// with returns with whom a leaf is at the end of a day.
func (o *truth) with(list []int, f api.Folio, day int) int {
	var last api.Receipt
	for _, r := range o.l.Receipts {
		if o.counts(r.Known, r.Until) && r.Paper == f.Paper && slices.Contains(r.Leaves, f.Leaf) && r.Day <= day && (last.Source == 0 || r.Day > last.Day) {
			last = r
		}
	}
	if last.Source == 0 {
		return 0
	}
	if i := o.backOf(last, f.Leaf); i >= 0 && list[i] <= day {
		return 0
	}
	return last.Borrower
}

func (o *truth) lies(list []int, r api.Receipt, day int) bool {
	return r.Day <= day && slices.ContainsFunc(r.Leaves, func(leaf int) bool {
		i := o.backOf(r, leaf)
		return i < 0 || list[i] > day
	})
}

// answer tells whether something is so by all true days, by none, or by some.
func (o *truth) answer(is func(list []int) bool) int {
	n := 0
	for _, list := range o.trueDays {
		if is(list) {
			n++
		}
	}
	switch n {
	case 0:
		return api.No
	case len(o.trueDays):
		return api.Yes
	}
	return api.Maybe
}

func (o *truth) where(f api.Folio, day int) []int {
	var persons []int
	for _, list := range o.trueDays {
		persons = append(persons, o.with(list, f, day))
	}
	slices.Sort(persons)
	return slices.Compact(persons)
}

func (o *truth) folios() []api.Folio {
	var all []api.Folio
	for _, p := range o.l.Papers {
		for i := range p.Leaves {
			all = append(all, folio(p.Id, i+1))
		}
	}
	return all
}

// fault is the error of those who ask for a sound ledger.
func (o *truth) fault() api.Errno {
	switch {
	case len(o.doubles) > 0:
		return api.ErrDouble
	case len(o.trueDays) == 0:
		return api.ErrClash
	}
	return api.OK
}

// contradict reports whether there are no true days with these sights alone.
func (o *truth) contradict(sights []api.Sight) bool {
	alone := truth{l: o.l, known: o.known, tells: o.tells}
	alone.l.Sights = sights
	alone.try(nil)
	return len(alone.trueDays) == 0
}

// clash returns the sources of the first fewest sights that contradict each other, by trying ever more of them.
func (o *truth) clash() []int {
	var count []api.Sight
	for _, s := range o.l.Sights {
		if o.counts(s.Known, s.Until) {
			count = append(count, s)
		}
	}
	var best []int
	for set := range 1 << len(count) {
		var sights []api.Sight
		var by []int
		for i, s := range count {
			if set>>i&1 == 1 {
				sights, by = append(sights, s), append(by, s.Source)
			}
		}
		if o.contradict(sights) && (best == nil || len(by) < len(best) || len(by) == len(best) && slices.Compare(by, best) < 0) {
			best = by
		}
	}
	return best
}

// TestP21Truth holds all answers about random ledgers against all their true days.
func TestP21Truth(t *testing.T) {
	sound, narrow := 0, 0
	eachSome(t, 21, 4000, func(r *rand.Rand, l api.Ledger) {
		known := r.IntN(4)
		o := truthOf(l, known)
		checkWhole(t, o)
		day := r.IntN(lastDay + 2)
		checkDay(t, o, day)
		checkMoved(t, o, day)
		if o.fault() == api.OK {
			sound++
			if len(o.trueDays) > 3 {
				narrow++
			}
			checkDays(t, o)
		}
	})
	if sound < 1500 || narrow < 400 {
		t.Errorf("%d ledgers are sound, %d have more than three true days: too few", sound, narrow)
	}
}

// checkWhole checks what is about no day.
func checkWhole(t *testing.T, o *truth) {
	t.Helper()
	var telling []int
	for i, b := range o.l.Returns {
		if o.tells[i] {
			telling = append(telling, b.Source)
		}
	}
	expect(t, "Telling", results(loan.Telling(o.l, o.known)), telling, api.OK)
	expect(t, "Sound", results(loan.Sound(o.l, o.known)), o.fault() == api.OK, api.OK)
	if len(o.doubles) == 0 {
		expect(t, "Double", results(loan.Double(o.l, o.known)), nil, api.ErrAgree)
		if by := o.clash(); by == nil {
			expect(t, "Clash", results(loan.Clash(o.l, o.known)), nil, api.ErrAgree)
		} else {
			expect(t, "Clash", results(loan.Clash(o.l, o.known)), by, api.OK)
		}
	} else {
		expect(t, "Double", results(loan.Double(o.l, o.known)), slices.MinFunc(o.doubles, slices.Compare[[]int]), api.OK)
		expect(t, "Clash", results(loan.Clash(o.l, o.known)), nil, api.ErrDouble)
	}
	for a := range sourcesOfSome + 1 {
		for b := range sourcesOfSome + 1 {
			by, want := []int{a, b}, api.ErrAgree
			if slices.ContainsFunc(o.doubles, func(d []int) bool { return slices.Equal(d, by) }) {
				want = api.OK
			}
			expect(t, fmt.Sprint("CheckDouble ", by), results(loan.CheckDouble(o.l, o.known, by)), want)
		}
	}
	checkClashes(t, o)
}

// checkClashes checks CheckClash of all lists of sources of sights.
func checkClashes(t *testing.T, o *truth) {
	t.Helper()
	for set := range 1 << len(o.l.Sights) {
		var sights []api.Sight
		var by []int
		all := true
		for i, s := range o.l.Sights {
			if set>>i&1 == 1 {
				sights, by = append(sights, s), append(by, s.Source)
				all = all && o.counts(s.Known, s.Until)
			}
		}
		want := api.ErrAgree
		if len(o.doubles) > 0 {
			want = api.ErrDouble
		} else if all && o.contradict(sights) {
			want = api.OK
			for i := range sights {
				if o.contradict(slices.Concat(sights[:i], sights[i+1:])) {
					want = api.ErrAgree
				}
			}
		}
		expect(t, fmt.Sprint("CheckClash ", by), results(loan.CheckClash(o.l, o.known, by)), want)
	}
}

// checkDay checks what is at the end of a day.
func checkDay(t *testing.T, o *truth, day int) {
	t.Helper()
	e := o.fault()
	sure, some := map[int][]api.Folio{}, map[int][]api.Folio{}
	for _, f := range o.folios() {
		persons := o.where(f, day)
		expect(t, fmt.Sprint("Where ", f, day), results(loan.Where(o.l, f, day, o.known)), persons, e)
		for _, person := range persons {
			some[person] = append(some[person], f)
			if len(persons) == 1 {
				sure[person] = append(sure[person], f)
			}
		}
	}
	for person := range people + 2 {
		expect(t, fmt.Sprint("Has ", person, day), results(loan.Has(o.l, person, day, o.known)), sure[person], e)
		expect(t, fmt.Sprint("May ", person, day), results(loan.May(o.l, person, day, o.known)), some[person], e)
	}
	for _, p := range o.l.Papers {
		want := 0
		if e == api.OK {
			want = o.answer(func(list []int) bool {
				for i := range p.Leaves {
					if o.with(list, folio(p.Id, i+1), day) != 0 {
						return false
					}
				}
				return true
			})
		}
		expect(t, fmt.Sprint("Whole ", p, day), results(loan.Whole(o.l, p.Id, day, o.known)), want, e)
	}
	for _, r := range o.l.Receipts {
		want, fault := 0, e
		if !o.counts(r.Known, r.Until) {
			fault = api.ErrNone
		} else if e == api.OK {
			want = o.answer(func(list []int) bool { return o.lies(list, r, day) })
		}
		expect(t, fmt.Sprint("Lies ", r, day), results(loan.Lies(o.l, r.Source, day, o.known)), want, fault)
	}
}

// checkDays checks what is about days of returns, of a sound ledger.
func checkDays(t *testing.T, o *truth) {
	t.Helper()
	for i, b := range o.l.Returns {
		if !o.tells[i] {
			expect(t, "Days of a return that does not tell", results(loan.Days(o.l, b.Source, o.known)), api.Range{}, api.ErrNone)
			expect(t, "Attain of one", results(loan.Attain(o.l, b.Source, o.known, true)), nil, api.ErrNone)
			continue
		}
		r := days(api.MaxDay, 0)
		for _, list := range o.trueDays {
			r = days(min(r.Lo, list[i]), max(r.Hi, list[i]))
		}
		expect(t, fmt.Sprint("Days ", b), results(loan.Days(o.l, b.Source, o.known)), r, api.OK)
		for last, want := range map[bool]int{false: r.Lo, true: r.Hi} {
			list, e := loan.Attain(o.l, b.Source, o.known, last)
			if e != api.OK || !o.areTrue(list, o.l.Sights) || list[i] != want {
				t.Errorf("Attain(%d, %v) = %v, %v; expected %d at %d", b.Source, last, list, e, want, i)
			}
		}
	}
}

// checkMoved checks Moved by the truth of the ledger without a source.
func checkMoved(t *testing.T, o *truth, day int) {
	t.Helper()
	for source := range sourcesOfSome + 2 {
		l := api.Ledger{Papers: o.l.Papers}
		for _, r := range o.l.Receipts {
			if r.Source != source {
				l.Receipts = append(l.Receipts, r)
			}
		}
		for _, b := range o.l.Returns {
			if b.Source != source {
				l.Returns = append(l.Returns, b)
			}
		}
		for _, s := range o.l.Sights {
			if s.Source != source {
				l.Sights = append(l.Sights, s)
			}
		}
		got := results(loan.Moved(o.l, source, day, o.known))
		if len(l.Receipts)+len(l.Returns)+len(l.Sights) == len(o.l.Receipts)+len(o.l.Returns)+len(o.l.Sights) {
			expect(t, "Moved of no source", got, nil, api.ErrNone)
			continue
		}
		without := truthOf(l, o.known)
		var moved []api.Folio
		for _, f := range o.folios() {
			if o.fault() != without.fault() || !slices.Equal(o.where(f, day), without.where(f, day)) {
				moved = append(moved, f)
			}
		}
		expect(t, fmt.Sprint("Moved ", source), got, moved, api.OK)
	}
}

// TestP21CheckTrue tries random numbers, most of them near true days.
func TestP21CheckTrue(t *testing.T) {
	right := 0
	eachSome(t, 22, 2000, func(r *rand.Rand, l api.Ledger) {
		o := truthOf(l, 1+r.IntN(2))
		for range 20 {
			list := make([]int, len(l.Returns))
			if len(o.trueDays) > 0 {
				copy(list, o.trueDays[r.IntN(len(o.trueDays))])
			}
			if len(list) > 0 && r.IntN(3) > 0 {
				list[r.IntN(len(list))] = []int{-1, r.IntN(lastDay + 2), r.IntN(lastDay + 2), api.MaxDay, api.MaxDay + 1}[r.IntN(5)]
			}
			if r.IntN(9) == 0 {
				list = append(list, 0)
			}
			want := api.ErrTrueDay
			if o.areTrue(list, l.Sights) {
				want, right = api.OK, right+1
			}
			expect(t, fmt.Sprint("CheckTrue ", list), results(loan.CheckTrue(l, o.known, list)), want)
			p, day := l.Papers[0], r.IntN(lastDay+2)
			var placed []int
			for i := range p.Leaves {
				if want == api.OK {
					placed = append(placed, o.with(list, folio(p.Id, i+1), day))
				}
			}
			expect(t, fmt.Sprint("Placed ", list, p, day), results(loan.Placed(l, list, p.Id, day, o.known)), placed, want)
		}
	})
	if right < 8000 {
		t.Errorf("only %d lists were true days", right)
	}
}
