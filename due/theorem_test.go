package due_test

import (
	"fmt"
	"math/rand/v2"
	"slices"
	"testing"

	"parvise/api"
	"parvise/due"
)

// mine returns what a list has of a loan, as known on a day.
func mine[T any](l []T, loan, known int, of func(T) (loan, known, until int)) []T {
	return slices.DeleteFunc(slices.Clone(l), func(v T) bool {
		other, from, until := of(v)
		return other != loan || !counts(from, until, known)
	})
}

func backsOf(a api.Account, loan, known int) []api.Back {
	return mine(a.Backs, loan, known, func(b api.Back) (int, int, int) { return b.Loan, b.Known, b.Until })
}

func askingsOf(a api.Account, loan, known int) []api.Asking {
	return mine(a.Askings, loan, known, func(q api.Asking) (int, int, int) { return q.Loan, q.Known, q.Until })
}

func suretiesOf(a api.Account, loan, known int) []api.Surety {
	return mine(a.Sureties, loan, known, func(s api.Surety) (int, int, int) { return s.Loan, s.Known, s.Until })
}

// paid returns how much was paid for a loan.
func paid(a api.Account, loan, known int) int {
	pence := 0
	for _, p := range a.Payments {
		if p.Loan == loan && counts(p.Known, p.Until, known) {
			pence += p.Pence
		}
	}
	return pence
}

// asPriced returns an account whose only rule has these prices.
func asPriced(a api.Account, daily, leaf int) api.Account {
	a.Rules = []api.Rule{{Daily: daily, Leaf: leaf}}
	return a
}

// total returns what shares add up to.
func total(l []api.Share) int {
	pence := 0
	for _, s := range l {
		pence += s.Pence
	}
	return pence
}

// eachLoan calls a function with many random accounts and each of their loans that count.
func eachLoan(t *testing.T, seed uint64, many, most int, f func(r *rand.Rand, a api.Account, x api.Lent, known int)) {
	t.Helper()
	eachSome(t, seed, many, most, func(r *rand.Rand, a api.Account, known int) {
		for _, x := range a.Lents {
			if counts(x.Known, x.Until, known) {
				f(r, a, x, known)
			}
		}
	})
}

// TestP72Surely draws true days: nobody is asked for more than was truly to be paid by them.
func TestP72Surely(t *testing.T) {
	within, owing := 0, 0
	eachLoan(t, 721, 1500, 20, func(r *rand.Rand, a api.Account, x api.Lent, known int) {
		fine, e := due.Fine(a, x.Source, known)
		owed, f := due.Owed(a, x.Source, known)
		shares, g := due.Shares(a, x.Source, known)
		expect(t, "errors", results(e, f, g), api.OK, api.OK, api.OK)
		for range 8 {
			var list []int
			for _, b := range backsOf(a, x.Source, known) {
				list = append(list, b.Day.Lo+r.IntN(b.Day.Hi-b.Day.Lo+1))
			}
			truly, e := due.Truly(a, x.Source, known, list)
			if e != api.OK || truly < fine.Lo || fine.Hi < truly {
				t.Errorf("Truly of %v is %d, %v, and Fine %v", list, truly, e, fine)
			}
			if most := max(0, truly-paid(a, x.Source, known)); owed > most || total(shares) > most {
				t.Errorf("Truly of %v is %d, but %d is owed, and Shares is %v", list, truly, owed, shares)
			}
			if fine.Lo < truly && truly < fine.Hi {
				within++
			}
			owing += min(owed, 1)
		}
	})
	if within < 500 || owing < 2000 {
		t.Errorf("just %d between, %d owed", within, owing)
	}
}

// TestP72Attained asks for both ends of Fine and Late: they are those of some true days.
func TestP72Attained(t *testing.T) {
	unsure := 0
	eachLoan(t, 722, 1500, 20, func(r *rand.Rand, a api.Account, x api.Lent, known int) {
		var lo, hi []int
		for _, b := range backsOf(a, x.Source, known) {
			lo, hi = append(lo, b.Day.Lo), append(hi, b.Day.Hi)
		}
		fine, _ := due.Fine(a, x.Source, known)
		late, e := due.Late(a, x.Source, known)
		daily := asPriced(a, 1, 0)
		expect(t, "Truly of the first days", results(due.Truly(a, x.Source, known, lo)), fine.Lo, api.OK)
		expect(t, "Truly of the last days", results(due.Truly(a, x.Source, known, hi)), fine.Hi, api.OK)
		expect(t, "days late, by the first days", results(due.Truly(daily, x.Source, known, lo)), late.Lo, e)
		expect(t, "days late, by the last days", results(due.Truly(daily, x.Source, known, hi)), late.Hi, e)
		unsure += min(1, late.Hi-late.Lo)
	})
	if unsure < 200 {
		t.Errorf("just %d unsure", unsure)
	}
}

func TestP73Shares(t *testing.T) {
	early, several, rest := 0, 0, 0
	eachLoan(t, 73, 2500, 24, func(r *rand.Rand, a api.Account, x api.Lent, known int) {
		owed, _ := due.Owed(a, x.Source, known)
		shares, e := due.Shares(a, x.Source, known)
		expect(t, "the sum of the shares", results(total(shares), e), owed, api.OK)
		worth := map[int]int{}
		for _, s := range suretiesOf(a, x.Source, known) {
			worth[s.Person] += s.Worth
		}
		first := known
		for _, q := range askingsOf(a, x.Source, known) {
			first = min(first, q.Day)
		}
		by := map[int]int{}
		for i, s := range shares {
			by[s.Person] += s.Pence
			if s.Pence <= 0 || known <= first+api.SuretyAfter && (i > 0 || s.Person != x.Borrower) {
				t.Errorf("Shares is %v", shares)
			}
		}
		for person, pence := range by {
			if person != x.Borrower && pence > worth[person] {
				t.Errorf("%d owes %d, and is worth %d", person, pence, worth[person])
			}
		}
		switch {
		case owed == 0:
		case known <= first+api.SuretyAfter:
			early++
		case len(shares) > 1 && by[x.Borrower] == 0:
			several++
		case len(shares) > 1:
			rest++
		}
	})
	if early < 100 || several < 20 || rest < 50 {
		t.Errorf("just %d early, %d by several sureties, %d by the borrower, too", early, several, rest)
	}
}

func TestP74Once(t *testing.T) {
	posted, owing := 0, 0
	eachSome(t, 74, 1500, 16, func(r *rand.Rand, a api.Account, known int) {
		list := someDays(r, a)
		posts, e := due.Posts(a, list)
		expect(t, "Posts, CheckPosts", results(e, due.CheckPosts(a, list, posts)), api.OK, api.OK)
		posted += len(posts)
		type key struct{ day, loan, person int }
		seen := map[key]bool{}
		sums := map[key]int{}
		for _, p := range posts {
			at := key{p.Day, p.Loan, p.Person}
			if p.Pence == 0 || seen[at] {
				t.Errorf("the posting %v of %v", p, posts)
			}
			seen[at] = true
			sums[key{0, p.Loan, p.Person}] += p.Pence
		}
		owed := 0
		for _, x := range a.Lents {
			by := map[int]int{}
			if len(list) > 0 {
				shares, _ := due.Shares(a, x.Source, list[len(list)-1])
				for _, s := range shares {
					by[s.Person] += s.Pence
				}
				pence, _ := due.Owed(a, x.Source, list[len(list)-1])
				owed += pence
			}
			for person := range people + 2 {
				expect(t, fmt.Sprint("the sum of the postings of ", x.Source, person), results(sums[key{0, x.Source, person}]), by[person])
			}
		}
		balances := 0
		for person := 1; person <= people+1; person++ {
			balance, e := due.Balance(a, list, person)
			expect(t, "Balance", results(e), api.OK)
			balances += balance
		}
		expect(t, "all balances", results(balances), owed)
		owing += min(1, owed)
	})
	if posted < 2000 || owing < 400 {
		t.Errorf("just %d postings, %d accounts by which something is owed", posted, owing)
	}
}

// withMore returns an account with entries that do not count on a day: they become known later, or, where some may have, ended before.
func withMore(r *rand.Rand, a api.Account, known int, ended bool) api.Account {
	s := some{Rand: r}
	times := func(day int) (int, int) {
		if ended && day < known && r.IntN(2) == 0 {
			from := day + r.IntN(known-day)
			return from, from + 1 + r.IntN(known-from)
		}
		return max(day, known+1) + r.IntN(3), 0
	}
	loan, source := 1+2*r.IntN(mostLoans), 2*r.IntN(20)+100
	x := lent(2*r.IntN(mostLoans)+2, 1+r.IntN(people), r.IntN(12), 20, 3)
	x.Known, x.Until = times(0)
	a.Lents = insert(a.Lents, x, func(x api.Lent) int { return x.Source })
	b := back(source, loan, 1+r.IntN(3), s.day(), 0)
	b.Day.Hi = b.Day.Lo + r.IntN(4)
	b.Known, b.Until = times(b.Day.Hi)
	a.Backs = insert(a.Backs, b, func(b api.Back) int { return b.Source })
	q := asking(source, loan, r.IntN(20))
	q.Known, q.Until = times(q.Day)
	a.Askings = insert(a.Askings, q, func(q api.Asking) int { return q.Source })
	p := payment(source, loan, 1+r.IntN(50))
	p.Known, p.Until = times(0)
	a.Payments = insert(a.Payments, p, func(p api.Payment) int { return p.Source })
	v := surety(source, loan, 1+r.IntN(people), r.IntN(100))
	v.Known, v.Until = times(0)
	a.Sureties = insert(a.Sureties, v, func(v api.Surety) int { return v.Source })
	return a
}

// TestP75AsKnown adds what becomes known later, or ended before: nothing changes.
func TestP75AsKnown(t *testing.T) {
	eachSome(t, 751, 800, 12, func(r *rand.Rand, a api.Account, known int) {
		more := withMore(r, a, known, true)
		expect(t, "Check", results(due.Check(more)), api.OK)
		count := whatCounts(a, known)
		for _, q := range questions(a) {
			is := q.ask(a, known)
			expect(t, q.name+" with what does not count", q.ask(more, known), is...)
			expect(t, q.name+" without what does not count", q.ask(count, known), is...)
		}
	})
}

// TestP75Moved takes away each source: just the loans of Moved have other shares.
func TestP75Moved(t *testing.T) {
	moving, still := 0, 0
	eachSome(t, 752, 300, 12, func(r *rand.Rand, a api.Account, known int) {
		for source := range 40 {
			moved, e := due.Moved(a, source, known)
			if e != api.OK {
				continue
			}
			less := withoutSource(a, source)
			for _, x := range a.Lents {
				with := fmt.Sprint(due.Shares(a, x.Source, known))
				without := fmt.Sprint(due.Shares(less, x.Source, known))
				expect(t, fmt.Sprint("Moved ", source, moved), results(slices.Contains(moved, x.Source)), with != without)
			}
			moving += min(1, len(moved))
			still += 1 - min(1, len(moved))
		}
	})
	if moving < 500 || still < 500 {
		t.Errorf("%d move something, %d nothing", moving, still)
	}
}

// TestP75Early asks for postings of days: they do not change by what becomes known behind the last one.
func TestP75Early(t *testing.T) {
	posted := 0
	eachSome(t, 753, 800, 12, func(r *rand.Rand, a api.Account, known int) {
		list := someDays(r, a)
		more := withMore(r, a, slices.Max(append(slices.Clone(list), 0)), false)
		posts, e := due.Posts(a, list)
		expect(t, "Posts, Check", results(e, due.Check(more)), api.OK, api.OK)
		expect(t, "Posts with what becomes known later", results(due.Posts(more, list)), posts, api.OK)
		posted += len(posts)
	})
	if posted < 500 {
		t.Errorf("just %d postings", posted)
	}
}

// TestP76Grows goes from a day to the next one.
func TestP76Grows(t *testing.T) {
	grown := 0
	eachLoan(t, 761, 1500, 16, func(r *rand.Rand, a api.Account, x api.Lent, known int) {
		dates, _ := due.Dates(a)
		if slices.Contains(dates, known+1) {
			return
		}
		fine, e := due.Fine(a, x.Source, known)
		next, f := due.Fine(a, x.Source, known+1)
		expect(t, "errors", results(e, f), api.OK, api.OK)
		if next.Lo < fine.Lo || next.Hi < fine.Hi {
			t.Errorf("Fine of %d is %v, and %v on the next day", x.Source, fine, next)
		}
		grown += min(1, next.Lo-fine.Lo)
	})
	if grown < 200 {
		t.Errorf("just %d have grown", grown)
	}
}

// TestP76Back has a further return, of at most as many leaves as are out.
func TestP76Back(t *testing.T) {
	less, same := 0, 0
	eachLoan(t, 762, 2500, 12, func(r *rand.Rand, a api.Account, x api.Lent, known int) {
		out, _ := due.Out(a, x.Source, known)
		if out == 0 {
			return
		}
		b := back(1+r.IntN(60), x.Source, 1+r.IntN(out), r.IntN(known+1), known)
		b.Day.Hi = b.Day.Lo + r.IntN(known-b.Day.Lo+1)
		more, e := due.Returned(a, b)
		if e != api.OK {
			return
		}
		fine, _ := due.Fine(a, x.Source, known)
		now, e := due.Fine(more, x.Source, known)
		expect(t, "Fine, Out", results(e, now.Lo <= fine.Lo), api.OK, true)
		expect(t, "Out", results(due.Out(more, x.Source, known)), out-b.Leaves, api.OK)
		less += min(1, fine.Lo-now.Lo)
		same += 1 - min(1, fine.Lo-now.Lo)
	})
	if less < 300 || same < 300 {
		t.Errorf("%d fines are less, %d the same", less, same)
	}
}

// TestP77Back brings back leaves that are lost: their price is given back, and it is posted.
func TestP77Back(t *testing.T) {
	given := 0
	eachLoan(t, 77, 2500, 12, func(r *rand.Rand, a api.Account, x api.Lent, known int) {
		lost, _ := due.Lost(a, x.Source, known)
		if lost == 0 {
			return
		}
		start, _ := due.Start(a, x.Source, known)
		out, _ := due.Out(a, x.Source, known)
		expect(t, "Out of what is lost", results(out), lost)
		back := back(61, x.Source, 1+r.IntN(lost), known, known)
		more, e := due.Returned(a, back)
		expect(t, "Returned", results(e), api.OK)
		expect(t, "Lost", results(due.Lost(more, x.Source, known)), lost-back.Leaves, api.OK)
		// As many days late, since a leaf is late by 360 days at most; so just the price is less.
		price, _ := due.Fine(asPriced(a, 0, 50), x.Source, known)
		now, _ := due.Fine(asPriced(more, 0, 50), x.Source, known)
		expect(t, "the price", results(price.Lo, now.Lo), 50*lost, 50*(lost-back.Leaves))
		fine, _ := due.Fine(a, x.Source, known)
		owed, _ := due.Owed(a, x.Source, known)
		less, _ := due.Fine(more, x.Source, known)
		leaf := truthOf(a, x.Source, known).rule.Leaf
		expect(t, "Fine", results(less), span(fine.Lo-back.Leaves*leaf, fine.Hi-back.Leaves*leaf))
		// All of it comes back before it was late: nothing is to be paid for it.
		early := back
		early.Day, early.Leaves = span(0, start), lost
		more, e = due.Returned(a, early)
		least, f := due.Fine(more, x.Source, known)
		expect(t, "Fine of what came back in time", results(e, f, least.Lo), api.OK, api.OK, fine.Lo-lost*(leaf+360*truthOf(a, x.Source, known).rule.Daily))
		given += min(1, owed)
	})
	if given < 60 {
		t.Errorf("just %d", given)
	}
}

// TestP77Posted posts that a leaf is lost, and then that it is back.
func TestP77Posted(t *testing.T) {
	a := example()
	a.Sureties = nil
	list := days(410, 411, 500, 501)
	posts := []api.Posting{posting(410, 1, 7, 780), posting(411, 1, 7, 50)}
	expect(t, "Posts", results(due.Posts(a, list)), posts, api.OK)
	late := back(13, 1, 1, 500, 501)
	more, e := due.Returned(a, late)
	expect(t, "Returned", results(e), api.OK)
	expect(t, "Lost on the day 500", results(due.Lost(more, 1, 500)), 1, api.OK)
	expect(t, "Lost on the day 501", results(due.Lost(more, 1, 501)), 0, api.OK)
	expect(t, "Posts of what came back", results(due.Posts(more, list)), append(posts, posting(501, 1, 7, -50)), api.OK)
	late.Day = span(60, 501)
	more, _ = due.Returned(a, late)
	expect(t, "Posts of what may have come back long ago", results(due.Posts(more, list)), append(posts, posting(501, 1, 7, -50-350*2)), api.OK)
	expect(t, "Fine of what may have come back long ago", results(due.Fine(more, 1, 501)), span(100, 860), api.OK)
}
