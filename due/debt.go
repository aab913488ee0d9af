package due

import (
	"slices"

	"parvise/api"
	"parvise/basic"
)

// debt is a loan that counts, and what is known of it on a day. Nothing is owed for one that is a zero value.
type debt struct {
	lent     lent
	known    int
	rule     api.Rule
	backs    []back
	askings  []int // their days
	payments []int // their pence
	sureties []surety
}

// look returns what is known of a loan on a day, or the first error.
func look(a api.Account, loan, known int) (debt, api.Errno) {
	b, e := open(a, basic.CheckDays(known))
	if e != api.OK {
		return debt{}, e
	}
	return b.debt(loan, known)
}

func (d debt) asked() bool { return len(d.askings) > 0 }

// firstAsking returns the day of the first asking. There has to be one.
func (d debt) firstAsking() int { return slices.Min(d.askings) }

// start returns the day from which on leaves are late. There has to be an asking.
func (d debt) start() int { return max(d.lent.Due, d.firstAsking()) }

// behind returns by how many days a leaf is late that is back on a day.
func (d debt) behind(day int) int {
	if !d.asked() {
		return 0
	}
	return min(max(day-d.start(), 0), api.LostBehind)
}

// parts returns how many leaves each return takes, and how many are out then.
func (d debt) parts() (taken []int, out int) {
	out = d.lent.Leaves
	for _, x := range d.backs {
		n := min(x.Leaves, out)
		taken = append(taken, n)
		out -= n
	}
	return taken, out
}

func (d debt) out() int {
	_, out := d.parts()
	return out
}

// lost returns how many leaves are lost.
func (d debt) lost() int {
	if !d.asked() || d.known-d.start() <= api.LostBehind {
		return 0
	}
	return d.out()
}

func (d debt) isOverdue() bool { return d.out() > 0 && d.asked() && d.start() < d.known }

// checkDays returns ErrDays if days are not true days.
func (d debt) checkDays(days []int) api.Errno {
	if len(days) != len(d.backs) {
		return api.ErrDays
	}
	for i, x := range d.backs {
		if !basic.Within(days[i], x.Day.Lo, x.Day.Hi) {
			return api.ErrDays
		}
	}
	return api.OK
}

// late returns by how many days all leaves are late, by true days.
func (d debt) late(days []int) int {
	taken, out := d.parts()
	late := []int{out * d.behind(d.known)}
	for i, day := range days {
		late = append(late, taken[i]*d.behind(day))
	}
	return sum(late...)
}

// price returns what was truly to be paid, by true days.
func (d debt) price(days []int) int {
	return sum(d.rule.Daily*d.late(days), d.rule.Leaf*d.lost())
}

// rangeOf returns the least and the greatest number of all true days: none of those that are asked for is less on a later day.
func (d debt) rangeOf(number func(days []int) int) api.Range {
	lo := each(d.backs, func(x back) int { return x.Day.Lo })
	hi := each(d.backs, func(x back) int { return x.Day.Hi })
	return api.Range{Lo: number(lo), Hi: number(hi)}
}

// owed returns what is surely owed.
func (d debt) owed() int { return max(0, d.rangeOf(d.price).Lo-sum(d.payments...)) }

// shares returns who owes it: the borrower first, who has what sureties leave.
func (d debt) shares() []api.Share {
	left := d.owed()
	take := func(x surety) api.Share {
		pence := min(x.Worth, left)
		left -= pence
		return api.Share{Person: x.Person, Pence: pence}
	}
	shares := make([]api.Share, 1)
	if d.asked() && d.known > d.firstAsking()+api.SuretyAfter {
		for _, x := range d.sureties {
			shares = append(shares, take(x))
		}
	}
	shares[0] = api.Share{Person: d.lent.Borrower, Pence: left}
	return slices.DeleteFunc(shares, func(s api.Share) bool { return s.Pence == 0 })
}

func sum(numbers ...int) int {
	all := 0
	for _, n := range numbers {
		all += n
	}
	return all
}
