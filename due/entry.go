package due

import (
	"cmp"
	"iter"
	"slices"

	"parvise/api"
	"parvise/basic"
)

// entry is one of any of the five kinds.
type entry interface {
	head() head
	isValid() bool
}

// head is what entries of all kinds have: the Source, the loan that is named (a loan names itself), and the times.
type head struct{ source, loan, known, until int }

type (
	lent    api.Lent
	back    api.Back
	asking  api.Asking
	payment api.Payment
	surety  api.Surety
)

func (x lent) head() head    { return head{x.Source, x.Source, x.Known, x.Until} }
func (x back) head() head    { return head{x.Source, x.Loan, x.Known, x.Until} }
func (x asking) head() head  { return head{x.Source, x.Loan, x.Known, x.Until} }
func (x payment) head() head { return head{x.Source, x.Loan, x.Known, x.Until} }
func (x surety) head() head  { return head{x.Source, x.Loan, x.Known, x.Until} }

func (x lent) isValid() bool {
	return x.head().isValid() && basic.IsPerson(x.Borrower) && basic.IsPaper(x.Paper) &&
		basic.AreDays(api.Range{Lo: x.Day, Hi: x.Due}) && areLeaves(x.Leaves)
}

func (x back) isValid() bool {
	return x.head().isValid() && areLeaves(x.Leaves) &&
		basic.Within(x.Day.Lo, 0, x.Day.Hi) && x.Day.Hi <= x.Known
}

func (x asking) isValid() bool { return x.head().isValid() && basic.Within(x.Day, 0, x.Known) }

func (x payment) isValid() bool {
	return x.head().isValid() && basic.Within(x.Pence, 1, api.MaxPence)
}

func (x surety) isValid() bool {
	return x.head().isValid() && basic.IsPerson(x.Person) && basic.Within(x.Worth, 0, api.MaxPence)
}

func (h head) isValid() bool {
	return basic.IsSource(h.source) && basic.IsSource(h.loan) && basic.AreTimes(h.known, h.until)
}

// areValid reports whether entries of one kind are valid, in order.
func areValid[E entry](l []E) bool {
	return basic.AreAll(l, func(x E) bool { return x.isValid() }) && basic.AreRising(l, bySource)
}

// of yields the entries of one kind that count, as known on a day, and name a loan.
func of[E entry](l []E, loan, known int) iter.Seq[E] {
	return func(yield func(E) bool) {
		for _, x := range l {
			h := x.head()
			if h.loan == loan && basic.Counts(h.known, h.until, known) && !yield(x) {
				return
			}
		}
	}
}

// without returns the entries of one kind without the one with a source.
func without[E entry](l []E, source int) []E {
	return slices.DeleteFunc(slices.Clone(l), func(x E) bool { return x.head().source == source })
}

// asEntries returns entries of one kind among which others may be.
func asEntries[E entry](l []E) []entry {
	return each(l, func(x E) entry { return x })
}

// each returns what a function makes of each element of a list.
func each[A, B any](l []A, as func(A) B) []B {
	all := make([]B, 0, len(l))
	for _, v := range l {
		all = append(all, as(v))
	}
	return all
}

// bySource orders entries of one kind.
func bySource[E entry](a, b E) int { return cmp.Compare(a.head().source, b.head().source) }

func timesOf(x entry) (known, until int) { return x.head().known, x.head().until }

func areLeaves(n int) bool { return basic.Within(n, 1, api.MaxLeaves) }
