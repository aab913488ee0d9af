package due_test

import (
	"fmt"
	"math/rand/v2"
	"slices"
	"testing"

	"parvise/api"
	"parvise/due"
)

// truth is what the chapter's terms say of a loan that counts, as known on a day, leaf by leaf, for all true days.
type truth struct {
	x        api.Lent
	known    int
	rule     api.Rule
	backs    []api.Back
	by       []int // the index of the return by which each leaf came back, -1 if it is out
	asked    int   // the day of the first asking, -1 if there is none
	paid     int
	sureties []api.Surety
	memo     map[int]int // by days: what behind has counted
}

// truthOf returns nil if the loan does not count.
func truthOf(a api.Account, loan, known int) *truth {
	a = whatCounts(a, known)
	o := &truth{known: known, asked: -1, memo: map[int]int{}}
	for _, x := range a.Lents {
		if x.Source == loan {
			o.x = x
		}
	}
	if o.x.Source == 0 {
		return nil
	}
	for _, r := range a.Rules {
		if r.From <= o.x.Day && r.From >= o.rule.From {
			o.rule = r
		}
	}
	for range o.x.Leaves {
		o.by = append(o.by, -1)
	}
	for _, b := range a.Backs {
		if b.Loan == loan {
			o.takes(b)
		}
	}
	for _, q := range a.Askings {
		if q.Loan == loan && (o.asked < 0 || q.Day < o.asked) {
			o.asked = q.Day
		}
	}
	for _, p := range a.Payments {
		if p.Loan == loan {
			o.paid += p.Pence
		}
	}
	o.sureties = slices.DeleteFunc(a.Sureties, func(s api.Surety) bool { return s.Loan != loan })
	return o
}

// takes enters the next return: one leaf after the other comes back.
func (o *truth) takes(b api.Back) {
	for range b.Leaves {
		if i := slices.Index(o.by, -1); i >= 0 {
			o.by[i] = len(o.backs)
		}
	}
	o.backs = append(o.backs, b)
}

func (o *truth) start() int { return max(o.x.Due, o.asked) }

// all returns all true days.
func (o *truth) all() [][]int {
	all := [][]int{nil}
	for _, b := range o.backs {
		var more [][]int
		for _, list := range all {
			for day := b.Day.Lo; day <= b.Day.Hi; day++ {
				more = append(more, append(slices.Clone(list), day))
			}
		}
		all = more
	}
	return all
}

// behind counts the days by which a leaf is late, one by one.
func (o *truth) behind(day int) int {
	n, is := o.memo[day]
	if is {
		return n
	}
	for late := o.start() + 1; o.asked >= 0 && late <= day && n < 360; late++ {
		n++
	}
	o.memo[day] = n
	return n
}

func (o *truth) late(list []int) int {
	n := 0
	for _, i := range o.by {
		if i < 0 {
			n += o.behind(o.known)
		} else {
			n += o.behind(list[i])
		}
	}
	return n
}

func (o *truth) out() int {
	return len(slices.DeleteFunc(slices.Clone(o.by), func(i int) bool { return i >= 0 }))
}

func (o *truth) lost() int {
	if o.asked >= 0 && o.known > o.start()+360 {
		return o.out()
	}
	return 0
}

func (o *truth) price(list []int) int { return o.rule.Daily*o.late(list) + o.rule.Leaf*o.lost() }

// spanOf returns the least and the greatest of some numbers of all true days.
func (o *truth) spanOf(number func(list []int) int) api.Range {
	var all []int
	for _, list := range o.all() {
		all = append(all, number(list))
	}
	return span(slices.Min(all), slices.Max(all))
}

func (o *truth) owed() int { return max(0, o.spanOf(o.price).Lo-o.paid) }

// shares lets each penny be owed by the first one who may owe it.
func (o *truth) shares() []api.Share {
	owed := make([]int, len(o.sureties)+1)
	for range o.owed() {
		who := 0
		for i, s := range o.sureties {
			if who == 0 && o.known-o.asked > 60 && owed[i+1] < s.Worth {
				who = i + 1
			}
		}
		owed[who]++
	}
	var l []api.Share
	for i, pence := range owed {
		switch {
		case pence == 0:
		case i == 0:
			l = append(l, share(o.x.Borrower, pence))
		default:
			l = append(l, share(o.sureties[i-1].Person, pence))
		}
	}
	return l
}

// TestP71Truth holds all answers about random accounts against all true days.
func TestP71Truth(t *testing.T) {
	seen := map[string]int{}
	eachSome(t, 71, 2500, 8, func(r *rand.Rand, a api.Account, known int) {
		var overdue []int
		for loan := range 2*mostLoans + 2 {
			o := truthOf(a, loan, known)
			if o == nil {
				checkNone(t, a, loan, known)
				continue
			}
			checkLate(t, a, loan, known, o)
			checkOwed(t, r, a, loan, known, o)
			if o.asked >= 0 && o.out() > 0 && o.start() < known {
				overdue = append(overdue, loan)
			}
			note(seen, o)
		}
		expect(t, "Overdue", results(due.Overdue(a, known)), overdue, api.OK)
		checkMoved(t, a, known)
	})
	for what, least := range map[string]int{"loans": 3000, "asked": 1500, "late": 500, "lost": 200, "paid": 500, "owed": 300, "several": 200, "borrower and surety": 50, "sureties": 30, "unsure": 300, "too many back": 200} {
		if seen[what] < least {
			t.Errorf("%s: just %d", what, seen[what])
		}
	}
}

// note counts what random loans are like.
func note(seen map[string]int, o *truth) {
	late, shares, takes := o.spanOf(o.late), o.shares(), 0
	for _, b := range o.backs {
		takes += b.Leaves
	}
	for what, is := range map[string]bool{
		"loans": true, "asked": o.asked >= 0, "late": late.Hi > 0, "lost": o.lost() > 0, "paid": o.paid > 0, "owed": o.owed() > 0,
		"several": len(o.backs) > 1, "unsure": late.Lo < late.Hi, "too many back": takes > o.x.Leaves,
		"borrower and surety": len(shares) > 1 && shares[0].Person == o.x.Borrower,
		"sureties":            len(shares) > 0 && len(o.sureties) > 1 && shares[0].Person != o.x.Borrower,
	} {
		if is {
			seen[what]++
		}
	}
}

// checkNone checks that nothing is told of what is no loan that counts.
func checkNone(t *testing.T, a api.Account, loan, known int) {
	t.Helper()
	expect(t, "Start", results(due.Start(a, loan, known)), 0, api.ErrNone)
	expect(t, "Out", results(due.Out(a, loan, known)), 0, api.ErrNone)
	expect(t, "Late", results(due.Late(a, loan, known)), span(0, 0), api.ErrNone)
	expect(t, "Lost", results(due.Lost(a, loan, known)), 0, api.ErrNone)
	expect(t, "Fine", results(due.Fine(a, loan, known)), span(0, 0), api.ErrNone)
	expect(t, "CheckDays", results(due.CheckDays(a, loan, known, nil)), api.ErrNone)
	expect(t, "Truly", results(due.Truly(a, loan, known, nil)), 0, api.ErrNone)
	expect(t, "Owed", results(due.Owed(a, loan, known)), 0, api.ErrNone)
	expect(t, "Shares", results(due.Shares(a, loan, known)), none, api.ErrNone)
}

// checkLate checks what is about leaves.
func checkLate(t *testing.T, a api.Account, loan, known int, o *truth) {
	t.Helper()
	of := fmt.Sprint(" of ", loan)
	if o.asked < 0 {
		expect(t, "Start"+of, results(due.Start(a, loan, known)), 0, api.ErrNone)
	} else {
		expect(t, "Start"+of, results(due.Start(a, loan, known)), o.start(), api.OK)
	}
	expect(t, "Out"+of, results(due.Out(a, loan, known)), o.out(), api.OK)
	expect(t, "Lost"+of, results(due.Lost(a, loan, known)), o.lost(), api.OK)
	expect(t, "Late"+of, results(due.Late(a, loan, known)), o.spanOf(o.late), api.OK)
}

// checkOwed checks what is about money.
func checkOwed(t *testing.T, r *rand.Rand, a api.Account, loan, known int, o *truth) {
	t.Helper()
	of := fmt.Sprint(" of ", loan)
	expect(t, "Fine"+of, results(due.Fine(a, loan, known)), o.spanOf(o.price), api.OK)
	expect(t, "Owed"+of, results(due.Owed(a, loan, known)), o.owed(), api.OK)
	expect(t, "Shares"+of, results(due.Shares(a, loan, known)), o.shares(), api.OK)
	all := o.all()
	for range 5 {
		list := slices.Clone(all[r.IntN(len(all))])
		expect(t, fmt.Sprint("CheckDays", of, list), results(due.CheckDays(a, loan, known, list)), api.OK)
		expect(t, fmt.Sprint("Truly", of, list), results(due.Truly(a, loan, known, list)), o.price(list), api.OK)
		for _, other := range nearDays(r, o, list) {
			expect(t, fmt.Sprint("CheckDays", of, other), results(due.CheckDays(a, loan, known, other)), api.ErrDays)
			expect(t, fmt.Sprint("Truly", of, other), results(due.Truly(a, loan, known, other)), 0, api.ErrDays)
		}
	}
}

// nearDays returns lists that are not true days, but nearly.
func nearDays(r *rand.Rand, o *truth, list []int) [][]int {
	near := [][]int{append(slices.Clone(list), r.IntN(20))}
	if n := len(list); n > 0 {
		i := r.IntN(n)
		early, later := slices.Clone(list), slices.Clone(list)
		early[i], later[i] = o.backs[i].Day.Lo-1, o.backs[i].Day.Hi+1
		near = append(near, early, later, list[1:])
	}
	return near
}

// checkMoved asks of each source, and of one that there is not.
func checkMoved(t *testing.T, a api.Account, known int) {
	t.Helper()
	with := map[int][]api.Share{}
	for _, loan := range loans(a) {
		if o := truthOf(a, loan, known); o != nil {
			with[loan] = o.shares()
		}
	}
	for source := range 31 {
		less := withoutSource(a, source)
		is := entries(less) < entries(a)
		var moved []int
		for _, loan := range loans(a) {
			shares, counts := with[loan]
			if !is || !counts {
				continue
			}
			if o := truthOf(less, loan, known); o == nil || !slices.Equal(shares, o.shares()) {
				moved = append(moved, loan)
			}
		}
		expect(t, fmt.Sprint("Moved ", source), results(due.Moved(a, source, known)), moved, verdict(is, api.ErrNone))
	}
}

// owed returns what each person owes for a loan, as known on a day.
func owed(a api.Account, loan, known int) map[int]int {
	by := map[int]int{}
	if o := truthOf(a, loan, known); o != nil {
		for _, s := range o.shares() {
			by[s.Person] += s.Pence
		}
	}
	return by
}

// TestP71Postings holds the postings of random days against what each person owes.
func TestP71Postings(t *testing.T) {
	posted, back := 0, 0
	eachSome(t, 72, 2000, 8, func(r *rand.Rand, a api.Account, known int) {
		list := someDays(r, a)
		var l []api.Posting
		balance := map[int]int{}
		for i, day := range list {
			for _, loan := range loans(a) {
				now, last := owed(a, loan, day), map[int]int{}
				if i > 0 {
					last = owed(a, loan, list[i-1])
				}
				for person := 1; person <= api.MaxPerson; person++ {
					if more := now[person] - last[person]; more != 0 {
						l = append(l, posting(day, loan, person, more))
						balance[person] += more
						if more < 0 {
							back++
						}
					}
				}
			}
		}
		posted += len(l)
		expect(t, fmt.Sprint("Posts ", list), results(due.Posts(a, list)), l, api.OK)
		expect(t, fmt.Sprint("CheckPosts ", list), results(due.CheckPosts(a, list, l)), api.OK)
		for person := 1; person <= people+1; person++ {
			expect(t, fmt.Sprint("Balance ", list, person), results(due.Balance(a, list, person)), balance[person], api.OK)
		}
	})
	if posted < 2000 || back < 200 {
		t.Errorf("just %d postings, %d of them back", posted, back)
	}
}
