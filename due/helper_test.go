package due_test

import (
	"cmp"
	"fmt"
	"math/rand/v2"
	"slices"
	"testing"

	"parvise/api"
	"parvise/due"
)

func days(l ...int) []int { return l }

func span(lo, hi int) api.Range { return api.Range{Lo: lo, Hi: hi} }

// lent returns a loan that is known from the day 0 on.
func lent(source, borrower, day, until, leaves int) api.Lent {
	return api.Lent{Source: source, Borrower: borrower, Paper: 30, Day: day, Due: until, Leaves: leaves}
}

// back returns a return that is known from its last day on.
func back(source, loan, leaves, lo, hi int) api.Back {
	return api.Back{Source: source, Loan: loan, Leaves: leaves, Day: span(lo, hi), Known: hi}
}

// asking returns one that is known from its day on.
func asking(source, loan, day int) api.Asking {
	return api.Asking{Source: source, Loan: loan, Day: day, Known: day}
}

// payment returns one that is known from the day 0 on.
func payment(source, loan, pence int) api.Payment {
	return api.Payment{Source: source, Loan: loan, Pence: pence}
}

// surety returns one that is known from the day 0 on.
func surety(source, loan, person, worth int) api.Surety {
	return api.Surety{Source: source, Loan: loan, Person: person, Worth: worth}
}

func share(person, pence int) api.Share { return api.Share{Person: person, Pence: pence} }

func posting(day, loan, person, pence int) api.Posting {
	return api.Posting{Day: day, Loan: loan, Person: person, Pence: pence}
}

// example returns the account of the chapter's examples.
func example() api.Account {
	a := api.Account{
		Rules:    []api.Rule{{From: 0, Daily: 2, Leaf: 50}},
		Lents:    []api.Lent{lent(1, 7, 10, 40, 5)},
		Backs:    []api.Back{back(11, 1, 2, 35, 55), back(12, 1, 2, 70, 80)},
		Askings:  []api.Asking{asking(21, 1, 50)},
		Payments: []api.Payment{payment(31, 1, 20)},
		Sureties: []api.Surety{surety(41, 1, 8, 100), surety(42, 1, 9, 900)},
	}
	a.Lents[0].Known, a.Backs[0].Known, a.Backs[1].Known = 10, 60, 90
	a.Payments[0].Known, a.Sureties[0].Known, a.Sureties[1].Known = 100, 10, 10
	return a
}

// wrong returns an account that is not valid.
func wrong() api.Account { return api.Account{Lents: []api.Lent{{}}} }

// full returns an account with as much of everything as may be: all that is entered is about the loan 99999, which nobody ever brings back.
func full() api.Account {
	a := api.Account{}
	for i := range api.MaxRules {
		a.Rules = append(a.Rules, api.Rule{From: i, Daily: 1000, Leaf: 1000})
	}
	for i := range api.MaxEntries {
		source := 99999 - api.MaxEntries + 1 + i
		a.Lents = append(a.Lents, lent(source, 99, 9, 9, 200))
		b := back(source, 99999, 1, 100000, 100000)
		a.Backs = append(a.Backs, b)
		a.Askings = append(a.Askings, asking(source, 99999, 100-i))
		a.Payments = append(a.Payments, payment(source, 99999, 1000000))
		a.Sureties = append(a.Sureties, surety(source, 99999, 1+i, 1000000))
	}
	return a
}

// cloned returns an account that may be changed.
func cloned(a api.Account) api.Account {
	a.Rules, a.Lents, a.Backs = slices.Clone(a.Rules), slices.Clone(a.Lents), slices.Clone(a.Backs)
	a.Askings, a.Payments, a.Sureties = slices.Clone(a.Askings), slices.Clone(a.Payments), slices.Clone(a.Sureties)
	return a
}

// none is an empty list.
var none []int

// result is what a call returned: all its values.
type result []any

func results(values ...any) result { return values }

// expect compares what a call returned by its print, in which nil and empty lists are the same.
func expect(t *testing.T, call string, got result, want ...any) {
	t.Helper()
	if fmt.Sprint(got...) != fmt.Sprint(want...) {
		t.Errorf("%s: %v; expected %v", call, got, want)
	}
}

// verdict is OK if something is so, and otherwise an error.
func verdict(ok bool, e api.Errno) api.Errno {
	if ok {
		return api.OK
	}
	return e
}

// question is a call that asks something of an account, as known on a day.
type question struct {
	name string
	ask  func(a api.Account, known int) result
}

// questions returns calls that ask of the loans of an account, and of one that it does not have.
func questions(a api.Account) []question {
	var all []question
	add := func(name string, ask func(a api.Account, known int) result) {
		all = append(all, question{name, ask})
	}
	add("Overdue", func(a api.Account, known int) result { return results(due.Overdue(a, known)) })
	for _, loan := range append(loans(a), 99999) {
		of := fmt.Sprint(" of ", loan)
		add("Start"+of, func(a api.Account, known int) result { return results(due.Start(a, loan, known)) })
		add("Out"+of, func(a api.Account, known int) result { return results(due.Out(a, loan, known)) })
		add("Late"+of, func(a api.Account, known int) result { return results(due.Late(a, loan, known)) })
		add("Lost"+of, func(a api.Account, known int) result { return results(due.Lost(a, loan, known)) })
		add("Fine"+of, func(a api.Account, known int) result { return results(due.Fine(a, loan, known)) })
		add("Owed"+of, func(a api.Account, known int) result { return results(due.Owed(a, loan, known)) })
		add("Truly"+of, func(a api.Account, known int) result {
			var list []int
			for _, b := range backsOf(a, loan, known) {
				list = append(list, b.Day.Lo)
			}
			return results(due.Truly(a, loan, known, list))
		})
		add("Shares"+of, func(a api.Account, known int) result { return results(due.Shares(a, loan, known)) })
	}
	return all
}

// loans returns the loans of an account.
func loans(a api.Account) []int {
	var l []int
	for _, x := range a.Lents {
		l = append(l, x.Source)
	}
	return l
}

const (
	mostLoans = 4 // of a random account: they are 1, 3, 5 and so on
	people    = 6 // of whom random accounts tell
)

// some draws a random account. It has days at which leaves become late, sureties owe, or leaves are lost.
type some struct {
	*rand.Rand
	fresh []int
}

// someAccount returns a valid account with at most so many entries of each kind that are about a loan.
func someAccount(r *rand.Rand, most int) api.Account {
	s := some{Rand: r}
	var a api.Account
	for from := range 14 {
		if len(a.Rules) < 3 && s.IntN(6) == 0 {
			a.Rules = append(a.Rules, api.Rule{From: from, Daily: s.IntN(4), Leaf: s.IntN(60)})
		}
	}
	for i := range 1 + s.IntN(mostLoans) {
		x := lent(1+2*i, 1+s.IntN(people), s.IntN(12), 0, 1+s.IntN(6))
		x.Due = x.Day + s.IntN(8)
		x.Known, x.Until = s.times(x.Day * s.IntN(2))
		a.Lents = append(a.Lents, x)
	}
	s.draw(most, func(source, loan int) {
		b := back(source, loan, 1+s.IntN(3), s.day(), 0)
		b.Day.Hi = b.Day.Lo + s.IntN(5)
		b.Known, b.Until = s.times(b.Day.Hi)
		a.Backs = append(a.Backs, b)
	})
	s.draw(most, func(source, loan int) {
		q := asking(source, loan, s.IntN(20))
		q.Known, q.Until = s.times(q.Day)
		a.Askings = append(a.Askings, q)
	})
	s.draw(most, func(source, loan int) {
		p := payment(source, loan, 1+s.IntN(1+s.IntN(300)))
		p.Known, p.Until = s.times(s.day())
		a.Payments = append(a.Payments, p)
	})
	s.draw(most, func(source, loan int) {
		v := surety(source, loan, 1+s.IntN(people), s.IntN(1+s.IntN(1200)))
		v.Known, v.Until = s.times(s.IntN(20))
		a.Sureties = append(a.Sureties, v)
	})
	return a
}

// day returns one of the first days, or one by which sureties owe, or leaves are lost.
func (s some) day() int {
	return s.IntN(14) + []int{0, 0, 0, api.SuretyAfter, api.LostBehind}[s.IntN(5)]
}

// times returns those of what is known on a day, or somewhat later, and hardly ever ends.
func (s some) times(day int) (known, until int) {
	known = day + s.IntN(3)
	if s.IntN(8) == 0 {
		until = known + 1 + s.day()
	}
	return known, until
}

// draw enters something, with a rising source, of random loans.
func (s some) draw(most int, enter func(source, loan int)) {
	source := 0
	for range s.IntN(most + 1) {
		source += 1 + s.IntN(3)
		enter(source, 1+2*s.IntN(mostLoans))
	}
}

// someKnown returns a day on which something becomes known, ends, is late, is owed by others or is lost; or the day ahead of it, or behind it.
func someKnown(r *rand.Rand, a api.Account) int {
	l, _ := due.Dates(a)
	for _, x := range a.Lents {
		l = append(l, x.Due, x.Due+api.LostBehind)
	}
	for _, q := range a.Askings {
		l = append(l, q.Day+api.SuretyAfter, q.Day+api.LostBehind)
	}
	return max(0, l[r.IntN(len(l))]-1+r.IntN(3))
}

// eachSome calls a function with many random accounts, of at most so many entries of each kind that are about a loan.
func eachSome(t *testing.T, seed uint64, many, most int, f func(r *rand.Rand, a api.Account, known int)) {
	t.Helper()
	r := rand.New(rand.NewPCG(seed, 7))
	for range many {
		a := someAccount(r, most)
		expect(t, "Check", results(due.Check(a)), api.OK)
		known := someKnown(r, a)
		f(r, a, known)
		if t.Failed() {
			t.Fatalf("known on %d: %+v", known, a)
		}
	}
}

// someDays returns a list of days of postings, as people are apt to look at an account.
func someDays(r *rand.Rand, a api.Account) []int {
	var l []int
	for range r.IntN(api.MaxDays + 1) {
		l = append(l, someKnown(r, a))
	}
	slices.Sort(l)
	return slices.Compact(l)
}

// without returns what is in a list and has another source.
func without[T any](l []T, source int, of func(T) int) []T {
	return slices.DeleteFunc(slices.Clone(l), func(v T) bool { return of(v) == source })
}

// withoutSource returns an account without all entries with a source.
func withoutSource(a api.Account, source int) api.Account {
	a.Lents = without(a.Lents, source, func(x api.Lent) int { return x.Source })
	a.Backs = without(a.Backs, source, func(x api.Back) int { return x.Source })
	a.Askings = without(a.Askings, source, func(x api.Asking) int { return x.Source })
	a.Payments = without(a.Payments, source, func(x api.Payment) int { return x.Source })
	a.Sureties = without(a.Sureties, source, func(x api.Surety) int { return x.Source })
	return a
}

// entries returns how many there are, of all kinds.
func entries(a api.Account) int {
	return len(a.Lents) + len(a.Backs) + len(a.Askings) + len(a.Payments) + len(a.Sureties)
}

func counts(known, until, day int) bool { return known <= day && (until == 0 || day < until) }

// whatCounts returns the account of just those entries that count.
func whatCounts(a api.Account, day int) api.Account {
	a = cloned(a)
	a.Lents = slices.DeleteFunc(a.Lents, func(x api.Lent) bool { return !counts(x.Known, x.Until, day) })
	a.Backs = slices.DeleteFunc(a.Backs, func(x api.Back) bool { return !counts(x.Known, x.Until, day) })
	a.Askings = slices.DeleteFunc(a.Askings, func(x api.Asking) bool { return !counts(x.Known, x.Until, day) })
	a.Payments = slices.DeleteFunc(a.Payments, func(x api.Payment) bool { return !counts(x.Known, x.Until, day) })
	a.Sureties = slices.DeleteFunc(a.Sureties, func(x api.Surety) bool { return !counts(x.Known, x.Until, day) })
	return a
}

// insert puts an entry at its place by sources, behind one with its source.
func insert[T any](l []T, v T, of func(T) int) []T {
	at, _ := slices.BinarySearchFunc(l, of(v)+1, func(other T, source int) int { return cmp.Compare(of(other), source) })
	return slices.Insert(slices.Clone(l), at, v)
}
