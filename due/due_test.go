package due_test

import (
	"fmt"
	"slices"
	"testing"
	"testing/synctest"

	"parvise/api"
	"parvise/due"
)

func TestP71Examples(t *testing.T) {
	a := example()
	expect(t, "Check", results(due.Check(a)), api.OK)
	expect(t, "Start(1, 45)", results(due.Start(a, 1, 45)), 0, api.ErrNone)
	expect(t, "Start(1, 50)", results(due.Start(a, 1, 50)), 50, api.OK)
	expect(t, "Start(2, 50)", results(due.Start(a, 2, 50)), 0, api.ErrNone)
	for known, out := range map[int]int{10: 5, 50: 5, 59: 5, 60: 3, 89: 3, 90: 1} {
		expect(t, fmt.Sprint("Out ", known), results(due.Out(a, 1, known)), out, api.OK)
	}
	for known, late := range map[int]api.Range{49: span(0, 0), 50: span(0, 0), 55: span(25, 25), 60: span(30, 40), 90: span(80, 110)} {
		expect(t, fmt.Sprint("Late ", known), results(due.Late(a, 1, known)), late, api.OK)
	}
	for known, fine := range map[int]api.Range{60: span(60, 80), 90: span(160, 220), 410: span(800, 860), 411: span(850, 910), 412: span(850, 910)} {
		expect(t, fmt.Sprint("Fine ", known), results(due.Fine(a, 1, known)), fine, api.OK)
	}
	for known, owed := range map[int]int{90: 160, 99: 178, 100: 160, 110: 180, 111: 182} {
		expect(t, fmt.Sprint("Owed ", known), results(due.Owed(a, 1, known)), owed, api.OK)
	}
	expect(t, "Truly(1, 90, 55 80)", results(due.Truly(a, 1, 90, days(55, 80))), 220, api.OK)
	expect(t, "Truly(1, 90, 36 70)", results(due.Truly(a, 1, 90, days(36, 70))), 160, api.OK)
	expect(t, "CheckDays(1, 90, 34 70)", results(due.CheckDays(a, 1, 90, days(34, 70))), api.ErrDays)
	expect(t, "Shares(1, 110)", results(due.Shares(a, 1, 110)), []api.Share{share(7, 180)}, api.OK)
	expect(t, "Shares(1, 111)", results(due.Shares(a, 1, 111)), []api.Share{share(8, 100), share(9, 82)}, api.OK)
	expect(t, "Lost(1, 410)", results(due.Lost(a, 1, 410)), 0, api.OK)
	expect(t, "Lost(1, 411)", results(due.Lost(a, 1, 411)), 1, api.OK)
	expect(t, "Overdue(50)", results(due.Overdue(a, 50)), none, api.OK)
	expect(t, "Overdue(51)", results(due.Overdue(a, 51)), []int{1}, api.OK)
	posts := []api.Posting{posting(60, 1, 7, 60), posting(90, 1, 7, 100), posting(111, 1, 7, -160), posting(111, 1, 8, 100), posting(111, 1, 9, 82)}
	expect(t, "Posts", results(due.Posts(a, days(60, 90, 111))), posts, api.OK)
	expect(t, "CheckPosts", results(due.CheckPosts(a, days(60, 90, 111), posts)), api.OK)
	for person, balance := range map[int]int{7: 0, 8: 100, 9: 82, 10: 0} {
		expect(t, fmt.Sprint("Balance ", person), results(due.Balance(a, days(60, 90, 111), person)), balance, api.OK)
	}
	expect(t, "Moved(12, 90)", results(due.Moved(a, 12, 90)), []int{1}, api.OK)
	expect(t, "Moved(41, 90)", results(due.Moved(a, 41, 90)), none, api.OK)
	expect(t, "Moved(41, 111)", results(due.Moved(a, 41, 111)), []int{1}, api.OK)
	expect(t, "Dates", results(due.Dates(a)), []int{10, 50, 60, 90, 100}, api.OK)
}

func TestP71Returned(t *testing.T) {
	a := example()
	for source, at := range map[int]int{1: 0, 10: 0, 13: 2, 21: 2, 99999: 2} {
		b := back(source, 5, 7, 20, 30)
		b.Until = 31
		more := example()
		more.Backs = slices.Insert(more.Backs, at, b)
		expect(t, fmt.Sprint("Returned ", b), results(due.Returned(a, b)), more, api.OK)
	}
	a.Backs[1].Source = 19
	more := cloned(a)
	more.Backs = slices.Insert(more.Backs, 1, back(15, 1, 1, 0, 0))
	expect(t, "Returned between others", results(due.Returned(a, back(15, 1, 1, 0, 0))), more, api.OK)
	expect(t, "Returned as the first one", results(due.Returned(api.Account{}, back(15, 1, 1, 0, 0))), api.Account{Backs: []api.Back{back(15, 1, 1, 0, 0)}}, api.OK)
	for _, b := range []api.Back{{}, back(0, 1, 1, 0, 0), back(100000, 1, 1, 0, 0), back(15, 0, 1, 0, 0), back(15, 1, 0, 0, 0), back(15, 1, 201, 0, 0), back(15, 1, 1, 9, 8), back(11, 1, 1, 0, 0), back(19, 1, 1, 0, 0), a.Backs[0]} {
		expect(t, fmt.Sprint("Returned ", b), results(due.Returned(a, b)), api.Account{}, api.ErrBack)
	}
}

func TestP71ReturnedFull(t *testing.T) {
	a := full()
	expect(t, "Returned in what is full", results(due.Returned(a, back(1, 1, 1, 0, 0))), api.Account{}, api.ErrLong)
	expect(t, "Returned in what is full, what is none", results(due.Returned(a, back(1, 1, 0, 0, 0))), api.Account{}, api.ErrBack)
	expect(t, "Returned in what is full, what is there", results(due.Returned(a, a.Backs[7])), api.Account{}, api.ErrBack)
	less := full()
	less.Backs = less.Backs[1:]
	expect(t, "Returned as the last one", results(due.Returned(less, a.Backs[0])), a, api.OK)
}

func TestP71Dates(t *testing.T) {
	expect(t, "Dates of nothing", results(due.Dates(api.Account{Rules: []api.Rule{{From: 5}}})), none, api.OK)
	a := api.Account{
		Lents:    []api.Lent{lent(1, 7, 10, 40, 5), lent(2, 7, 11, 41, 5)},
		Backs:    []api.Back{back(3, 1, 2, 35, 55)},
		Askings:  []api.Asking{asking(4, 1, 50)},
		Payments: []api.Payment{payment(5, 1, 20)},
		Sureties: []api.Surety{surety(6, 1, 8, 100)},
	}
	expect(t, "Dates without ends", results(due.Dates(a)), []int{0, 50, 55}, api.OK)
	a.Lents[0].Known, a.Lents[1].Known, a.Payments[0].Known, a.Sureties[0].Known = 9, 80, 7, 6
	a.Lents[0].Until, a.Lents[1].Until, a.Backs[0].Until, a.Askings[0].Until, a.Payments[0].Until, a.Sureties[0].Until = 100000, 90, 80, 56, 8, 7
	expect(t, "Dates with ends", results(due.Dates(a)), []int{6, 7, 8, 9, 50, 55, 56, 80, 90, 100000}, api.OK)
}

// TestP71Rule has loans of several days, each with a leaf that is late by three days, and then lost.
func TestP71Rule(t *testing.T) {
	a := api.Account{Rules: []api.Rule{{From: 5, Daily: 1, Leaf: 10}, {From: 8, Daily: 0, Leaf: 30}, {From: 9, Daily: 4, Leaf: 0}}}
	for i := range 12 {
		a.Lents = append(a.Lents, lent(1+i, 7, i, 20, 1))
		a.Askings = append(a.Askings, asking(1+i, 1+i, 10))
	}
	for day, c := range map[int][2]int{0: {}, 4: {}, 5: {3, 370}, 6: {3, 370}, 7: {3, 370}, 8: {0, 30}, 9: {12, 1440}, 11: {12, 1440}} {
		expect(t, fmt.Sprint("Fine of what was lent on ", day), results(due.Fine(a, 1+day, 23)), span(c[0], c[0]), api.OK)
		expect(t, fmt.Sprint("Fine of what was lost, lent on ", day), results(due.Fine(a, 1+day, 381)), span(c[1], c[1]), api.OK)
	}
	expect(t, "Late without a rule", results(due.Late(a, 1, 23)), span(3, 3), api.OK)
	expect(t, "Lost without a rule", results(due.Lost(a, 1, 381)), 1, api.OK)
	expect(t, "Shares without a rule", results(due.Shares(a, 1, 381)), none, api.OK)
	a.Rules = nil
	expect(t, "Fine without any rules", results(due.Fine(a, 12, 381)), span(0, 0), api.OK)
}

func TestP71Start(t *testing.T) {
	a := example()
	a.Askings = []api.Asking{asking(1, 1, 60), asking(2, 1, 52), asking(3, 2, 41), asking(4, 1, 45), asking(5, 1, 30), asking(6, 1, 39)}
	a.Askings[3].Known, a.Askings[3].Until = 70, 80
	a.Askings[4].Known, a.Askings[5].Known = 90, 95
	for known, start := range map[int]int{52: 52, 60: 52, 69: 52, 70: 45, 79: 45, 80: 52, 89: 52, 90: 40, 95: 40} {
		expect(t, fmt.Sprint("Start ", known), results(due.Start(a, 1, known)), start, api.OK)
	}
	expect(t, "Start without an asking", results(due.Start(a, 1, 51)), 0, api.ErrNone)
	a.Askings = []api.Asking{asking(1, 1, 0)}
	expect(t, "Start by an asking on the day 0", results(due.Start(a, 1, 10)), 40, api.OK)
	a.Lents[0].Day, a.Lents[0].Due, a.Lents[0].Known = 0, 0, 0
	expect(t, "Start on the day 0", results(due.Start(a, 1, 0)), 0, api.OK)
	expect(t, "Late on the day 0", results(due.Late(a, 1, 0)), span(0, 0), api.OK)
	expect(t, "Overdue on the day 0", results(due.Overdue(a, 0)), none, api.OK)
	expect(t, "Late on the day 1", results(due.Late(a, 1, 1)), span(5, 5), api.OK)
	expect(t, "Overdue on the day 1", results(due.Overdue(a, 1)), []int{1}, api.OK)
}

// TestP71Unasked has a loan that is long overdue, but for which nobody has asked.
func TestP71Unasked(t *testing.T) {
	a := example()
	a.Askings = []api.Asking{asking(21, 2, 50)}
	for _, known := range []int{10, 60, 500, api.MaxDay} {
		expect(t, "Start", results(due.Start(a, 1, known)), 0, api.ErrNone)
		expect(t, "Late", results(due.Late(a, 1, known)), span(0, 0), api.OK)
		expect(t, "Lost", results(due.Lost(a, 1, known)), 0, api.OK)
		expect(t, "Fine", results(due.Fine(a, 1, known)), span(0, 0), api.OK)
		expect(t, "Owed", results(due.Owed(a, 1, known)), 0, api.OK)
		expect(t, "Shares", results(due.Shares(a, 1, known)), none, api.OK)
		expect(t, "Overdue", results(due.Overdue(a, known)), none, api.OK)
	}
	expect(t, "Truly", results(due.Truly(a, 1, 500, days(55, 80))), 0, api.OK)
	expect(t, "Posts", results(due.Posts(a, days(0, 60, 500, 100000))), none, api.OK)
}

// TestP71Parts has returns that say more than is left, of which the first one by its source is not the first one by its day.
func TestP71Parts(t *testing.T) {
	a := example()
	a.Backs = []api.Back{back(1, 1, 4, 80, 80), back(2, 2, 1, 60, 60), back(3, 1, 3, 55, 56), back(4, 1, 200, 51, 52)}
	for known, c := range map[int]struct {
		out  int
		late api.Range
	}{
		51: {5, span(5, 5)},
		52: {0, span(5, 10)},            // all of them by the last return
		56: {0, span(3*5+2*1, 3*6+2*2)}, // 3 by the one ahead of it, and 2 by the last one
		80: {0, span(4*30+5, 4*30+6)},   // 4, 1 and none
	} {
		expect(t, fmt.Sprint("Out ", known), results(due.Out(a, 1, known)), c.out, api.OK)
		expect(t, fmt.Sprint("Late ", known), results(due.Late(a, 1, known)), c.late, api.OK)
	}
	expect(t, "CheckDays of all three", results(due.CheckDays(a, 1, 80, days(80, 56, 51))), api.OK)
	expect(t, "CheckDays of just two", results(due.CheckDays(a, 1, 80, days(80, 56))), api.ErrDays)
	expect(t, "CheckDays of what takes none", results(due.CheckDays(a, 1, 80, days(80, 56, 53))), api.ErrDays)
	expect(t, "Truly", results(due.Truly(a, 1, 80, days(80, 56, 51))), 2*126, api.OK)
	a.Backs[0].Until = 90
	expect(t, "Late without the return that ended", results(due.Late(a, 1, 90)), span(17, 22), api.OK)
	a.Backs[0].Until, a.Backs[0].Leaves = 0, 5
	expect(t, "Out of what is back at once", results(due.Out(a, 1, 80)), 0, api.OK)
	expect(t, "Late of what is back at once", results(due.Late(a, 1, 80)), span(150, 150), api.OK)
	expect(t, "Overdue of what is back", results(due.Overdue(a, 80)), none, api.OK)
}

// TestP71Lost has a leaf that stays out, and one that comes back after as long a time.
func TestP71Lost(t *testing.T) {
	a := example()
	a.Lents[0].Leaves, a.Backs, a.Payments = 3, nil, nil
	for known, c := range map[int][3]int{409: {359 * 3, 0, 359 * 6}, 410: {360 * 3, 0, 360 * 6}, 411: {360 * 3, 3, 360*6 + 150}, 100000: {360 * 3, 3, 360*6 + 150}} {
		expect(t, fmt.Sprint("Late ", known), results(due.Late(a, 1, known)), span(c[0], c[0]), api.OK)
		expect(t, fmt.Sprint("Lost ", known), results(due.Lost(a, 1, known)), c[1], api.OK)
		expect(t, fmt.Sprint("Fine ", known), results(due.Fine(a, 1, known)), span(c[2], c[2]), api.OK)
	}
	a.Backs = []api.Back{back(1, 1, 2, 405, 415)}
	expect(t, "Late of two leaves that are back", results(due.Late(a, 1, 420)), span(2*355+360, 3*360), api.OK)
	expect(t, "Lost beside them", results(due.Lost(a, 1, 420)), 1, api.OK)
	expect(t, "Fine of all", results(due.Fine(a, 1, 420)), span(2*(2*355+360)+50, 6*360+50), api.OK)
	expect(t, "Truly", results(due.Truly(a, 1, 420, days(412))), 6*360+50, api.OK)
	a.Lents[0].Due, a.Lents[0].Known = 60, 10
	expect(t, "Lost later, where it is due later", results(due.Lost(a, 1, 420)), 0, api.OK)
	expect(t, "Lost later still", results(due.Lost(a, 1, 421)), 1, api.OK)
}

func TestP71Owed(t *testing.T) {
	// Of four leaves two are late by 5 days, and two by 20 to 30 days: 100 pence at least.
	a := example()
	a.Lents[0].Leaves, a.Backs[0].Day.Lo = 4, 55
	a.Payments = []api.Payment{payment(1, 1, 40), payment(2, 2, 500), payment(3, 1, 59), payment(4, 1, 1), payment(5, 1, 1)}
	a.Payments[2].Known, a.Payments[2].Until = 91, 94
	a.Payments[3].Known, a.Payments[4].Known = 92, 93
	for known, owed := range map[int]int{90: 60, 91: 1, 92: 0, 93: 0, 94: 58, 500: 58} {
		expect(t, fmt.Sprint("Owed ", known), results(due.Owed(a, 1, known)), owed, api.OK)
	}
	expect(t, "Shares of what is paid", results(due.Shares(a, 1, 93)), none, api.OK)
	expect(t, "Fine of what is paid", results(due.Fine(a, 1, 93)), span(100, 140), api.OK)
}

func TestP71Shares(t *testing.T) {
	a := example() // 182 pence are owed on the day 111
	for _, c := range []struct {
		name     string
		sureties []api.Surety
		want     []api.Share
	}{
		{"none", nil, []api.Share{share(7, 182)}},
		{"not enough", []api.Surety{surety(1, 1, 8, 100), surety(2, 1, 5, 50)}, []api.Share{share(7, 32), share(8, 100), share(5, 50)}},
		{"the other order", []api.Surety{surety(1, 1, 5, 50), surety(2, 1, 8, 100)}, []api.Share{share(7, 32), share(5, 50), share(8, 100)}},
		{"just enough", []api.Surety{surety(1, 1, 8, 100), surety(2, 1, 5, 82)}, []api.Share{share(8, 100), share(5, 82)}},
		{"nearly enough", []api.Surety{surety(1, 1, 8, 100), surety(2, 1, 5, 81)}, []api.Share{share(7, 1), share(8, 100), share(5, 81)}},
		{"more than enough", []api.Surety{surety(1, 1, 8, 183), surety(2, 1, 5, 82)}, []api.Share{share(8, 182)}},
		{"one that is worth nothing", []api.Surety{surety(1, 1, 8, 0), surety(2, 1, 5, 82)}, []api.Share{share(7, 100), share(5, 82)}},
		{"one twice", []api.Surety{surety(1, 1, 8, 40), surety(2, 1, 5, 30), surety(3, 1, 8, 20)}, []api.Share{share(7, 92), share(8, 40), share(5, 30), share(8, 20)}},
		{"the borrower", []api.Surety{surety(1, 1, 7, 40), surety(2, 1, 5, 30)}, []api.Share{share(7, 112), share(7, 40), share(5, 30)}},
		{"one of another loan", []api.Surety{surety(1, 2, 8, 40), surety(2, 1, 5, 30)}, []api.Share{share(7, 152), share(5, 30)}},
	} {
		a.Sureties = c.sureties
		expect(t, "Shares with "+c.name, results(due.Shares(a, 1, 111)), c.want, api.OK)
		expect(t, "Shares a day earlier with "+c.name, results(due.Shares(a, 1, 110)), []api.Share{share(7, 180)}, api.OK)
	}
	// It is the first asking from which the days are counted, not the start.
	a.Askings = []api.Asking{asking(21, 1, 50), asking(22, 1, 20)}
	a.Lents[0].Due = 50
	a.Sureties = []api.Surety{surety(1, 1, 8, 1000)}
	a.Sureties[0].Until = 85
	expect(t, "Shares 60 days after the first asking", results(due.Shares(a, 1, 80)), []api.Share{share(7, 180)}, api.OK)
	expect(t, "Shares 61 days after the first asking", results(due.Shares(a, 1, 81)), []api.Share{share(8, 186)}, api.OK)
	expect(t, "Shares of a surety that ended", results(due.Shares(a, 1, 85)), []api.Share{share(7, 210)}, api.OK)
}

func TestP71Overdue(t *testing.T) {
	a := api.Account{}
	for i := range 7 {
		a.Lents = append(a.Lents, lent(1+i, 7, 0, 10+i, 2))
		a.Askings = append(a.Askings, asking(1+i, 1+i, 12))
	}
	a.Lents[0].Until, a.Lents[3].Known = 15, 16
	a.Askings[4].Loan = 9
	a.Backs = []api.Back{back(1, 2, 2, 0, 14), back(2, 3, 1, 0, 14)}
	for known, want := range map[int][]int{11: none, 12: none, 13: {1, 2, 3}, 14: {1, 3}, 15: {3}, 16: {3, 4, 6}, 17: {3, 4, 6, 7}, 100000: {3, 4, 6, 7}} {
		expect(t, fmt.Sprint("Overdue ", known), results(due.Overdue(a, known)), want, api.OK)
	}
}

// posted is the account of two loans that become known, end and are paid.
func posted() api.Account {
	a := example()
	a.Lents = append(a.Lents, lent(2, 5, 0, 100, 1), lent(3, 9, 0, 100, 1))
	a.Lents[1].Until = 160
	a.Askings = append(a.Askings, asking(22, 2, 100), asking(23, 3, 100))
	a.Payments = append(a.Payments, payment(32, 3, 30))
	return a
}

func TestP71Posts(t *testing.T) {
	for _, c := range []struct {
		name string
		list []int
		want []api.Posting
	}{
		{"no days", nil, nil},
		{"a day too early", days(50), nil},
		{"one day", days(111), []api.Posting{posting(111, 1, 8, 100), posting(111, 1, 9, 82), posting(111, 2, 5, 22)}},
		{"a day on which a loan ended", days(159, 160), []api.Posting{
			posting(159, 1, 8, 100), posting(159, 1, 9, 178), posting(159, 2, 5, 118), posting(159, 3, 9, 88),
			posting(160, 1, 9, 2), posting(160, 2, 5, -118), posting(160, 3, 9, 2),
		}},
		{"days on which nothing changes", days(0, 1, 40, 49), nil},
		{"days of which one changes nothing", days(110, 111, 5000, 5001), []api.Posting{
			posting(110, 1, 7, 180), posting(110, 2, 5, 20),
			posting(111, 1, 7, -180), posting(111, 1, 8, 100), posting(111, 1, 9, 82), posting(111, 2, 5, 2),
			posting(5000, 1, 9, 648), posting(5000, 2, 5, -22), posting(5000, 3, 9, 740),
		}},
	} {
		a := posted()
		expect(t, "Posts of "+c.name, results(due.Posts(a, c.list)), c.want, api.OK)
		expect(t, "CheckPosts of "+c.name, results(due.CheckPosts(a, c.list, c.want)), api.OK)
		checkOtherPosts(t, a, c.list, c.want)
	}
}

// checkOtherPosts expects that postings that are changed a bit are refused.
func checkOtherPosts(t *testing.T, a api.Account, list []int, l []api.Posting) {
	t.Helper()
	refuse := func(other []api.Posting) {
		t.Helper()
		expect(t, fmt.Sprint("CheckPosts of other ones ", other), results(due.CheckPosts(a, list, other)), api.ErrPosts)
	}
	refuse(append(slices.Clone(l), posting(111, 2, 6, 22)))
	for i, p := range l {
		refuse(slices.Delete(slices.Clone(l), i, i+1))
		refuse(slices.Insert(slices.Clone(l), i, p))
		for _, change := range []api.Posting{posting(1, 0, 0, 0), posting(0, 1, 0, 0), posting(0, 0, 1, 0), posting(0, 0, 0, 1)} {
			other := slices.Clone(l)
			other[i] = posting(p.Day+change.Day, p.Loan+change.Loan, p.Person+change.Person, p.Pence+change.Pence)
			refuse(other)
		}
		if i > 0 {
			other := slices.Clone(l)
			other[i], other[i-1] = other[i-1], other[i]
			refuse(other)
		}
	}
}

// TestP71PostsSum has a person who owes several shares of a loan: they are posted as one.
func TestP71PostsSum(t *testing.T) {
	a := example()
	a.Sureties = []api.Surety{surety(1, 1, 7, 40), surety(2, 1, 5, 30), surety(3, 1, 5, 12)}
	expect(t, "Posts", results(due.Posts(a, days(110, 111))), []api.Posting{posting(110, 1, 7, 180), posting(111, 1, 5, 42), posting(111, 1, 7, -40)}, api.OK)
	a.Sureties = []api.Surety{surety(1, 1, 7, 182)}
	expect(t, "Posts where another share is the same person's", results(due.Posts(a, days(110, 111))), []api.Posting{posting(110, 1, 7, 180), posting(111, 1, 7, 2)}, api.OK)
}

func TestP71Balance(t *testing.T) {
	a := posted()
	for _, c := range []struct {
		list            []int
		person, balance int
	}{
		{nil, 7, 0}, {days(60), 7, 60}, {days(60, 110), 7, 180}, {days(60, 111), 7, 0}, {days(60, 111), 5, 22}, {days(159), 5, 118}, {days(159, 160), 5, 0},
		{days(159), 9, 178 + 88}, {days(159, 160), 9, 180 + 90}, {days(160), 8, 100}, {days(160), 1, 0}, {days(160), 99, 0},
	} {
		expect(t, fmt.Sprint("Balance ", c), results(due.Balance(a, c.list, c.person)), c.balance, api.OK)
	}
}

func TestP71Moved(t *testing.T) {
	a := posted()
	for _, c := range []struct {
		source, known int
		want          []int
	}{
		{1, 9, none}, {1, 10, []int{1}}, {1, 90, []int{1}}, {2, 90, []int{2}}, {2, 159, []int{2}}, {2, 160, none},
		{11, 59, none}, {11, 60, []int{1}}, {21, 49, none}, {21, 50, none}, {21, 51, []int{1}}, {31, 99, none}, {31, 100, []int{1}},
		{22, 100, none}, {22, 101, []int{2}}, {23, 115, none}, {23, 116, []int{3}}, {32, 100, none}, {32, 101, []int{3}}, {42, 110, none}, {42, 111, []int{1}},
	} {
		expect(t, fmt.Sprint("Moved ", c), results(due.Moved(a, c.source, c.known)), c.want, api.OK)
	}
	// Entries of all kinds that have the source are gone.
	a.Backs[0].Source, a.Askings[1].Source, a.Payments[1].Source = 1, 21, 31
	a.Askings = slices.Delete(a.Askings, 0, 1)
	a.Payments = slices.Delete(a.Payments, 0, 1)
	a.Sureties = []api.Surety{surety(21, 1, 8, 100), surety(31, 2, 8, 10), surety(32, 3, 8, 10)}
	a.Askings = append([]api.Asking{asking(20, 1, 50)}, a.Askings...)
	expect(t, "Moved of an asking and a surety", results(due.Moved(a, 21, 161)), []int{1}, api.OK)
	expect(t, "Moved of an asking and a surety, where both count", results(due.Moved(a, 21, 159)), []int{1, 2}, api.OK)
	expect(t, "Moved of a payment alone, and a surety that does not owe yet", results(due.Moved(a, 31, 159)), []int{3}, api.OK)
	expect(t, "Moved of a payment and a surety", results(due.Moved(a, 31, 161)), []int{3}, api.OK)
	expect(t, "Moved of a loan and one of its returns", results(due.Moved(a, 1, 159)), []int{1}, api.OK)
	expect(t, "Moved of what is not there", results(due.Moved(a, 4, 159)), none, api.ErrNone)
	// A loan of which nothing is owed is moved, too: it has another error.
	expect(t, "Moved of a loan that is paid", results(due.Moved(a, 3, 20)), []int{3}, api.OK)
}

// TestP71Full has as much of everything, and the greatest numbers.
func TestP71Full(t *testing.T) {
	a, known := full(), api.MaxDay
	expect(t, "Start", results(due.Start(a, 99999, known)), 41, api.OK)
	expect(t, "Out", results(due.Out(a, 99999, known)), 140, api.OK)
	expect(t, "Late", results(due.Late(a, 99999, known)), span(72000, 72000), api.OK)
	expect(t, "Fine", results(due.Fine(a, 99999, known)), span(72140000, 72140000), api.OK)
	expect(t, "Owed", results(due.Owed(a, 99999, known)), 12140000, api.OK)
	shares, e := due.Shares(a, 99999, known)
	expect(t, "Shares", results(len(shares), shares[0], shares[12], e), 13, share(1, 1000000), share(13, 140000), api.OK)
	expect(t, "Overdue", results(due.Overdue(a, known)), []int{99999}, api.OK)
	list := slices.Repeat(days(api.MaxDay), api.MaxEntries)
	expect(t, "Truly", results(due.Truly(a, 99999, known, list)), 72140000, api.OK)
	var dates []int
	for i := range api.MaxDays {
		dates = append(dates, api.MaxDay-api.MaxDays+1+i)
	}
	posts, e := due.Posts(a, dates)
	expect(t, "Posts", results(len(posts), posts[12], e), 14, posting(dates[0], 99999, 13, 200000), api.OK)
	expect(t, "Posts of what is back at last", results(posts[13]), posting(api.MaxDay, 99999, 13, -60000))
}

// TestP71Joined leaves no goroutine behind: the bubble ends only when all have ended.
func TestP71Joined(t *testing.T) {
	synctest.Test(t, func(t *testing.T) {
		a, list := posted(), days(60, 90, 111)
		for range 20 {
			posts, _ := due.Posts(a, list)
			due.Posts(a, days(3, 2))
			due.CheckPosts(a, list, posts)
			due.CheckPosts(a, list, posts[1:])
			due.CheckPosts(a, list, nil)
			due.Balance(a, list, 7)
			due.Balance(a, list, 0)
		}
	})
}
