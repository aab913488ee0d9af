package due

import (
	"slices"

	"parvise/api"
	"parvise/basic"
)

// book is an account whose entries can be asked as such.
type book struct {
	rules    []api.Rule
	lents    []lent
	backs    []back
	askings  []asking
	payments []payment
	sureties []surety
}

func bookOf(a api.Account) book {
	return book{
		rules:    a.Rules,
		lents:    each(a.Lents, func(x api.Lent) lent { return lent(x) }),
		backs:    each(a.Backs, func(x api.Back) back { return back(x) }),
		askings:  each(a.Askings, func(x api.Asking) asking { return asking(x) }),
		payments: each(a.Payments, func(x api.Payment) payment { return payment(x) }),
		sureties: each(a.Sureties, func(x api.Surety) surety { return surety(x) }),
	}
}

// open returns the book of an account, or the first error: some others come behind that of the account.
func open(a api.Account, others ...api.Errno) (book, api.Errno) {
	if e := basic.First(Check(a), basic.First(others...)); e != api.OK {
		return book{}, e
	}
	return bookOf(a), api.OK
}

func (b book) isValid() bool {
	return areValid(b.lents) && areValid(b.backs) && areValid(b.askings) && areValid(b.payments) && areValid(b.sureties)
}

// entries returns those of all kinds.
func (b book) entries() []entry {
	return slices.Concat(asEntries(b.lents), asEntries(b.backs), asEntries(b.askings), asEntries(b.payments), asEntries(b.sureties))
}

func (b book) has(source int) bool {
	return slices.ContainsFunc(b.entries(), func(x entry) bool { return x.head().source == source })
}

// without returns the book without all entries with a source.
func (b book) without(source int) book {
	return book{
		rules:    b.rules,
		lents:    without(b.lents, source),
		backs:    without(b.backs, source),
		askings:  without(b.askings, source),
		payments: without(b.payments, source),
		sureties: without(b.sureties, source),
	}
}

// ruleOn returns the rule of what is lent on a day; ahead of all rules nothing costs anything.
func (b book) ruleOn(day int) api.Rule {
	var rule api.Rule
	for _, r := range b.rules {
		if r.From <= day {
			rule = r
		}
	}
	return rule
}

// debt returns what is known of a loan on a day, and ErrNone if the loan does not count.
func (b book) debt(loan, known int) (debt, api.Errno) {
	for x := range of(b.lents, loan, known) {
		d := debt{
			lent:     x,
			known:    known,
			rule:     b.ruleOn(x.Day),
			backs:    slices.Collect(of(b.backs, loan, known)),
			sureties: slices.Collect(of(b.sureties, loan, known)),
		}
		for a := range of(b.askings, loan, known) {
			d.askings = append(d.askings, a.Day)
		}
		for p := range of(b.payments, loan, known) {
			d.payments = append(d.payments, p.Pence)
		}
		return d, api.OK
	}
	return debt{}, api.ErrNone
}

// shares returns what is owed for a loan, by persons.
func (b book) shares(loan, known int) ([]api.Share, api.Errno) {
	d, e := b.debt(loan, known)
	return d.shares(), e
}
