package due

import (
	"cmp"
	"slices"

	"parvise/api"
	"parvise/basic"
)

// Posts returns the postings of days.
func Posts(a api.Account, days []int) ([]api.Posting, api.Errno) {
	b, e := open(a, checkDates(days))
	if e != api.OK {
		return nil, e
	}
	var l []api.Posting
	for p := range b.post(days) {
		l = append(l, p)
	}
	return l, api.OK
}

// CheckPosts reports whether postings are these.
func CheckPosts(a api.Account, days []int, l []api.Posting) api.Errno {
	posts, e := Posts(a, days)
	return basic.First(e, basic.Verdict(slices.Equal(l, posts), api.ErrPosts))
}

// Balance returns what a person owes by the postings of days.
func Balance(a api.Account, days []int, person int) (int, api.Errno) {
	b, e := open(a, checkDates(days), basic.Verdict(basic.IsPerson(person), api.ErrShare))
	if e != api.OK {
		return 0, e
	}
	balance := 0
	for p := range b.post(days) {
		if p.Person == person {
			balance += p.Pence
		}
	}
	return balance, api.OK
}

// checkDates returns ErrDay if a list is none of days of postings.
func checkDates(days []int) api.Errno {
	ok := len(days) <= api.MaxDays && basic.AreAll(days, basic.IsDay) && basic.AreRising(days, cmp.Compare)
	return basic.Verdict(ok, api.ErrDay)
}

// dues is what each person owes for a loan.
type dues [api.MaxPerson + 1]int

// duesOf returns what persons owe for a loan; nothing, if it does not count.
func (b book) duesOf(loan, known int) dues {
	var owed dues
	shares, _ := b.shares(loan, known)
	for _, s := range shares {
		owed[s.Person] += s.Pence
	}
	return owed
}

// post returns a channel down which the postings of days are sent, in order. Who takes it has to take all of them.
func (b book) post(days []int) <-chan api.Posting {
	c := make(chan api.Posting)
	go func() {
		defer close(c)
		last := make([]dues, len(b.lents))
		for _, day := range days {
			for i, x := range b.lents {
				now := b.duesOf(x.Source, day)
				for person, pence := range now {
					if more := pence - last[i][person]; more != 0 {
						c <- api.Posting{Day: day, Loan: x.Source, Person: person, Pence: more}
					}
				}
				last[i] = now
			}
		}
	}()
	return c
}
