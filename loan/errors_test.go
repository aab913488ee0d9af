package loan_test

import (
	"fmt"
	"slices"
	"strings"
	"testing"

	"parvise/api"
	"parvise/loan"
)

func TestP21Records(t *testing.T) {
	paper := func(f func(p *api.Paper)) result {
		p := api.Paper{Id: 999, Leaves: 30}
		f(&p)
		return results(loan.CheckPaper(p), api.ErrLeaves)
	}
	lent := func(f func(r *api.Receipt)) result {
		r := receipt(99999, 99, 999, api.MaxDay, 1, 30)
		f(&r)
		return results(loan.CheckReceipt(r), api.ErrReceipt)
	}
	returned := func(f func(r *api.Return)) result {
		r := back(99999, 1, days(0, api.MaxDay), 1, 30)
		f(&r)
		return results(loan.CheckReturn(r), api.ErrReturn)
	}
	seen := func(f func(s *api.Sight)) result {
		s := sight(99999, 0, 999, 30, api.MaxDay)
		f(&s)
		return results(loan.CheckSight(s), api.ErrSight)
	}
	thirty, tooMany := make([]int, 30), make([]int, 31)
	for i := range tooMany {
		tooMany[i] = i + 1
	}
	copy(thirty, tooMany)
	right := []result{
		paper(func(p *api.Paper) {}), paper(func(p *api.Paper) { p.Id, p.Leaves = 1, 1 }),
		lent(func(r *api.Receipt) {}), lent(func(r *api.Receipt) { r.Source, r.Borrower, r.Paper, r.Day = 1, 1, 1, 0 }), lent(func(r *api.Receipt) { r.Leaves = thirty }),
		lent(func(r *api.Receipt) { r.Known, r.Until = 7, 8 }), lent(func(r *api.Receipt) { r.Known = api.MaxDay }),
		returned(func(r *api.Return) {}), returned(func(r *api.Return) { r.Source, r.Receipt, r.Person, r.Day = 1, 99999, 99, days(7, 7) }), returned(func(r *api.Return) { r.Leaves = thirty }),
		seen(func(s *api.Sight) {}), seen(func(s *api.Sight) { s.Source, s.Person, s.Paper, s.Leaf, s.Day = 1, 99, 1, 1, 0 }),
	}
	for i, r := range right {
		expect(t, fmt.Sprint("right ", i), r, api.OK)
	}
	wrong := []result{
		paper(func(p *api.Paper) { p.Id = 0 }), paper(func(p *api.Paper) { p.Id = 1000 }), paper(func(p *api.Paper) { p.Leaves = 0 }), paper(func(p *api.Paper) { p.Leaves = 31 }),
		lent(func(r *api.Receipt) { r.Source = 0 }), lent(func(r *api.Receipt) { r.Source = 100000 }), lent(func(r *api.Receipt) { r.Borrower = 0 }), lent(func(r *api.Receipt) { r.Borrower = 100 }),
		lent(func(r *api.Receipt) { r.Paper = 0 }), lent(func(r *api.Receipt) { r.Paper = 1000 }), lent(func(r *api.Receipt) { r.Leaves = nil }), lent(func(r *api.Receipt) { r.Leaves = []int{2, 1} }),
		lent(func(r *api.Receipt) { r.Leaves = []int{2, 2} }), lent(func(r *api.Receipt) { r.Leaves = []int{0} }), lent(func(r *api.Receipt) { r.Leaves = []int{31} }), lent(func(r *api.Receipt) { r.Leaves = tooMany }),
		lent(func(r *api.Receipt) { r.Day = -1 }), lent(func(r *api.Receipt) { r.Day = api.MaxDay + 1 }), lent(func(r *api.Receipt) { r.Known = -1 }), lent(func(r *api.Receipt) { r.Known, r.Until = 5, 5 }),
		returned(func(r *api.Return) { r.Source = 0 }), returned(func(r *api.Return) { r.Source = 100000 }), returned(func(r *api.Return) { r.Receipt = 0 }), returned(func(r *api.Return) { r.Receipt = 100000 }),
		returned(func(r *api.Return) { r.Person = 0 }), returned(func(r *api.Return) { r.Person = 100 }), returned(func(r *api.Return) { r.Leaves = nil }), returned(func(r *api.Return) { r.Leaves = []int{3, 2} }),
		returned(func(r *api.Return) { r.Day = days(3, 2) }), returned(func(r *api.Return) { r.Day = days(-1, 2) }), returned(func(r *api.Return) { r.Day = days(0, api.MaxDay+1) }),
		returned(func(r *api.Return) { r.Known = api.MaxDay + 1 }), returned(func(r *api.Return) { r.Until = -1 }),
		seen(func(s *api.Sight) { s.Source = 0 }), seen(func(s *api.Sight) { s.Source = 100000 }), seen(func(s *api.Sight) { s.Person = -1 }), seen(func(s *api.Sight) { s.Person = 100 }),
		seen(func(s *api.Sight) { s.Paper = 0 }), seen(func(s *api.Sight) { s.Paper = 1000 }), seen(func(s *api.Sight) { s.Leaf = 0 }), seen(func(s *api.Sight) { s.Leaf = 31 }),
		seen(func(s *api.Sight) { s.Day = -1 }), seen(func(s *api.Sight) { s.Day = api.MaxDay + 1 }), seen(func(s *api.Sight) { s.Until = api.MaxDay + 1 }), seen(func(s *api.Sight) { s.Known = -1 }),
	}
	for i, r := range wrong {
		expect(t, fmt.Sprint("wrong ", i), r[:1], r[1])
	}
}

// args are arguments, of which each call takes some.
type args struct {
	l                  api.Ledger
	person, day, known int
	f                  api.Folio
	source             int
}

// call is a function, what it takes and asks for beside a ledger and known, in words, and its other result with an error.
type call struct {
	name, takes string
	none        any
	ask         func(a args) result
}

func calls() []call {
	return []call{
		{"Telling", "", nil, func(a args) result { return results(loan.Telling(a.l, a.known)) }},
		{"Double", "", nil, func(a args) result { return results(loan.Double(a.l, a.known)) }},
		{"CheckDouble", "", nil, func(a args) result { return results(nil, loan.CheckDouble(a.l, a.known, nil)) }},
		{"Clash", "agree", nil, func(a args) result { return results(loan.Clash(a.l, a.known)) }},
		{"CheckClash", "agree", nil, func(a args) result { return results(nil, loan.CheckClash(a.l, a.known, nil)) }},
		{"Sound", "", false, func(a args) result { return results(loan.Sound(a.l, a.known)) }},
		{"Days", "source agree sound", api.Range{}, func(a args) result { return results(loan.Days(a.l, a.source, a.known)) }},
		{"Where", "folio day agree sound", nil, func(a args) result { return results(loan.Where(a.l, a.f, a.day, a.known)) }},
		{"Whole", "paper day agree sound", 0, func(a args) result { return results(loan.Whole(a.l, a.f.Paper, a.day, a.known)) }},
		{"Lies", "source day agree sound", 0, func(a args) result { return results(loan.Lies(a.l, a.source-11, a.day, a.known)) }},
		{"Has", "person day agree sound", nil, func(a args) result { return results(loan.Has(a.l, a.person, a.day, a.known)) }},
		{"May", "person day agree sound", nil, func(a args) result { return results(loan.May(a.l, a.person, a.day, a.known)) }},
		{"CheckTrue", "true", nil, func(a args) result { return results(nil, loan.CheckTrue(a.l, a.known, []int{1})) }},
		{"Placed", "paper day true", nil, func(a args) result { return results(loan.Placed(a.l, []int{1}, a.f.Paper, a.day, a.known)) }},
		{"Attain", "source agree sound", nil, func(a args) result { return results(loan.Attain(a.l, a.source, a.known, true)) }},
		{"Moved", "source day", nil, func(a args) result { return results(loan.Moved(a.l, a.source, a.day, a.known)) }},
	}
}

// TestP21Errors gives each function ever fewer wrong arguments: the error named first is due.
func TestP21Errors(t *testing.T) {
	for _, c := range calls() {
		a := args{l: wrong(), person: -1, day: -1, known: -1, f: folio(3, 1), source: 99}
		refuse := func(e api.Errno) {
			t.Helper()
			expect(t, fmt.Sprint(c.name, " of ", a), c.ask(a), c.none, e)
		}
		takes := func(word string) bool { return slices.Contains(strings.Fields(c.takes), word) }
		refuse(api.ErrLedger)
		a.l = double()
		if takes("person") {
			for _, a.person = range []int{-1, 100} {
				refuse(api.ErrArg)
			}
		}
		for _, a.person = range []int{0, 99} {
			for _, a.known = range []int{-1, api.MaxDay + 1} {
				refuse(api.ErrDay)
			}
		}
		a.day, a.known = 0, api.MaxDay+1
		refuse(api.ErrDay)
		a.known = 80
		if takes("day") {
			for _, a.day = range []int{-1, api.MaxDay + 1} {
				refuse(api.ErrDay)
			}
		}
		a.day = api.MaxDay
		checkFolioErrors(t, c, a, takes)
	}
}

// checkFolioErrors gives a function leaves and sources that are none, then receipts that are double, and then sights that contradict each other.
func checkFolioErrors(t *testing.T, c call, a args, takes func(word string) bool) {
	t.Helper()
	refuse := func(e api.Errno) {
		t.Helper()
		expect(t, fmt.Sprint(c.name, " of ", a), c.ask(a), c.none, e)
	}
	if takes("folio") || takes("paper") {
		for _, a.f = range []api.Folio{folio(3, 1), folio(0, 1), folio(-1, 1), folio(0, 0)} {
			refuse(api.ErrFolio)
		}
	}
	if takes("folio") {
		for _, a.f = range []api.Folio{folio(1, 0), folio(1, 4), folio(2, 2), folio(1, -1)} {
			refuse(api.ErrFolio)
		}
	}
	a.f = folio(1, 3)
	if takes("source") {
		for _, a.source = range []int{99, 12, 0, -1} {
			refuse(api.ErrNone)
		}
	}
	a.source = 21
	if takes("true") {
		refuse(api.ErrTrueDay)
	}
	if takes("agree") {
		refuse(api.ErrDouble)
	} else if got := c.ask(a); got[1] == api.ErrDouble || got[1] == api.ErrClash {
		t.Errorf("%s of %v: %v", c.name, a, got)
	}
	a.l = example()
	if takes("true") {
		refuse(api.ErrTrueDay)
	}
	if takes("sound") {
		refuse(api.ErrClash)
	} else if got := c.ask(a); got[1] == api.ErrClash {
		t.Errorf("%s of %v: %v", c.name, a, got)
	}
}

func TestP21LastErrors(t *testing.T) {
	l := example()
	expect(t, "Days of a return that is not known", results(loan.Days(l, 20, 59)), api.Range{}, api.ErrNone)
	expect(t, "Days of a receipt", results(loan.Days(l, 10, 60)), api.Range{}, api.ErrNone)
	expect(t, "Lies of a return", results(loan.Lies(l, 20, 5, 60)), 0, api.ErrNone)
	expect(t, "Lies of a receipt that is not known", results(loan.Lies(l, 11, 50, 39)), 0, api.ErrNone)
	expect(t, "Attain of a return that is not known", results(loan.Attain(l, 20, 59, false)), nil, api.ErrNone)
	expect(t, "CheckTrue of too few", results(loan.CheckTrue(l, 60, []int{20})), api.ErrTrueDay)
	expect(t, "CheckTrue of too many", results(loan.CheckTrue(l, 60, []int{20, 11, 0})), api.ErrTrueDay)
	expect(t, "CheckTrue of none, but there are returns", results(loan.CheckTrue(l, 30, nil)), api.ErrTrueDay)
	expect(t, "CheckTrue of returns that do not tell", results(loan.CheckTrue(l, 30, []int{0, api.MaxDay})), api.OK)
	expect(t, "CheckTrue of numbers that are too great", results(loan.CheckTrue(l, 30, []int{0, api.MaxDay + 1})), api.ErrTrueDay)
	expect(t, "CheckTrue of numbers that are too small", results(loan.CheckTrue(l, 30, []int{-1, 0})), api.ErrTrueDay)
	expect(t, "CheckTrue of an empty ledger", results(loan.CheckTrue(api.Ledger{}, 0, nil)), api.OK)
	expect(t, "CheckTrue of a ledger that is not sound", results(loan.CheckTrue(l, 80, []int{26, 11})), api.ErrTrueDay)
	expect(t, "Placed of no days", results(loan.Placed(l, nil, 1, 5, 60)), nil, api.ErrTrueDay)
	expect(t, "Has in an empty ledger", results(loan.Has(api.Ledger{}, 0, 0, 0)), nil, api.OK)
}
