package due

import (
	"slices"

	"parvise/api"
	"parvise/basic"
)

// Start returns the day from which on leaves are late.
func Start(a api.Account, loan, known int) (int, api.Errno) {
	d, e := look(a, loan, known)
	if e := basic.First(e, basic.Verdict(d.asked(), api.ErrNone)); e != api.OK {
		return 0, e
	}
	return d.start(), api.OK
}

// Out returns how many leaves are out.
func Out(a api.Account, loan, known int) (int, api.Errno) {
	d, e := look(a, loan, known)
	return d.out(), e
}

// Late returns how many days all leaves were late together.
func Late(a api.Account, loan, known int) (api.Range, api.Errno) {
	d, e := look(a, loan, known)
	return d.rangeOf(d.late), e
}

// Lost returns how many leaves are lost.
func Lost(a api.Account, loan, known int) (int, api.Errno) {
	d, e := look(a, loan, known)
	return d.lost(), e
}

// Fine returns what is to be paid for a loan.
func Fine(a api.Account, loan, known int) (api.Range, api.Errno) {
	d, e := look(a, loan, known)
	return d.rangeOf(d.price), e
}

// CheckDays reports whether true days may be.
func CheckDays(a api.Account, loan, known int, days []int) api.Errno {
	d, e := look(a, loan, known)
	return basic.First(e, d.checkDays(days))
}

// Truly returns what was to be paid, if days are true.
func Truly(a api.Account, loan, known int, days []int) (int, api.Errno) {
	d, e := look(a, loan, known)
	if e := basic.First(e, d.checkDays(days)); e != api.OK {
		return 0, e
	}
	return d.price(days), api.OK
}

// Owed returns what is surely owed, and not paid.
func Owed(a api.Account, loan, known int) (int, api.Errno) {
	d, e := look(a, loan, known)
	return d.owed(), e
}

// Shares returns who owes it.
func Shares(a api.Account, loan, known int) ([]api.Share, api.Errno) {
	d, e := look(a, loan, known)
	return d.shares(), e
}

// Overdue returns the loans that are late.
func Overdue(a api.Account, known int) ([]int, api.Errno) {
	b, e := open(a, basic.CheckDays(known))
	return b.loansThat(func(loan int) bool {
		d, e := b.debt(loan, known)
		return e == api.OK && d.isOverdue()
	}), e
}

// Moved returns the loans for which something else would be owed without a source.
func Moved(a api.Account, source, known int) ([]int, api.Errno) {
	with, e := open(a, basic.CheckDays(known))
	if e := basic.First(e, basic.Verdict(with.has(source), api.ErrNone)); e != api.OK {
		return nil, e
	}
	less := with.without(source)
	return with.loansThat(func(loan int) bool {
		l, e := with.shares(loan, known)
		other, f := less.shares(loan, known)
		return e != f || !slices.Equal(l, other)
	}), api.OK
}

// loansThat returns the loans, rising, of which something is so.
func (b book) loansThat(is func(loan int) bool) []int {
	var loans []int
	for _, x := range b.lents {
		if is(x.Source) {
			loans = append(loans, x.Source)
		}
	}
	return loans
}
