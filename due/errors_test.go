package due_test

import (
	"fmt"
	"math"
	"math/rand/v2"
	"slices"
	"strings"
	"testing"

	"parvise/api"
	"parvise/due"
)

func TestP71CheckRule(t *testing.T) {
	for _, c := range []struct {
		from, daily, leaf int
		valid             bool
	}{
		{0, 0, 0, true}, {5, 2, 50, true}, {100000, 1000, 1000, true},
		{-1, 2, 50, false}, {100001, 2, 50, false}, {math.MinInt, 2, 50, false}, {math.MaxInt, 2, 50, false},
		{5, -1, 50, false}, {5, 1001, 50, false}, {5, 2, -1, false}, {5, 2, 1001, false}, {5, math.MaxInt, math.MinInt, false},
	} {
		r := api.Rule{From: c.from, Daily: c.daily, Leaf: c.leaf}
		expect(t, fmt.Sprint("CheckRule ", r), results(due.CheckRule(r)), verdict(c.valid, api.ErrRule))
		expect(t, fmt.Sprint("Check with the rule ", r), results(due.Check(api.Account{Rules: []api.Rule{r}})), verdict(c.valid, api.ErrAccount))
	}
}

// change is a number that is put into an entry, and whether this is valid then.
type change struct {
	field string
	n     int
	valid bool
}

// common returns changes of what each kind of entry has, and is known on the day 60 until the day 70.
func common() []change {
	return []change{
		{"nothing", 0, true},
		{"Source", 1, true}, {"Source", 99999, true}, {"Source", 0, false}, {"Source", 100000, false}, {"Source", -1, false}, {"Source", math.MinInt, false},
		{"Known", 61, true}, {"Known", 69, true}, {"Known", 70, false}, {"Known", 71, false}, {"Known", -1, false}, {"Known", 100000, false}, {"Known", math.MaxInt, false},
		{"Until", 0, true}, {"Until", 61, true}, {"Until", 100000, true}, {"Until", 60, false}, {"Until", 59, false}, {"Until", 1, false}, {"Until", -1, false}, {"Until", 100001, false}, {"Until", math.MinInt, false},
	}
}

// named returns changes of the loan that an entry names.
func named() []change {
	return []change{{"Loan", 1, true}, {"Loan", 99999, true}, {"Loan", 0, false}, {"Loan", 100000, false}, {"Loan", -1, false}}
}

// checkChanges makes each change of a valid entry, and asks whether it is valid, alone and in an account.
func checkChanges[T any](t *testing.T, valid T, fields func(x *T) map[string]*int, check func(T) api.Errno, e api.Errno, account func(l []T) api.Account, changes ...change) {
	t.Helper()
	for _, c := range changes {
		x := valid
		if p := fields(&x)[c.field]; p != nil {
			*p = c.n
		} else if c.field != "nothing" {
			t.Fatalf("no field %s", c.field)
		}
		expect(t, fmt.Sprintf("%T with %s %d", x, c.field, c.n), results(check(x)), verdict(c.valid, e))
		expect(t, fmt.Sprintf("Check with %T with %s %d", x, c.field, c.n), results(due.Check(account([]T{x}))), verdict(c.valid, api.ErrAccount))
	}
	var zero T
	expect(t, fmt.Sprintf("%T of nothing", zero), results(check(zero)), e)
}

func TestP71CheckLent(t *testing.T) {
	x := api.Lent{Source: 5, Borrower: 7, Paper: 30, Day: 10, Due: 40, Leaves: 5, Known: 60, Until: 70}
	fields := func(x *api.Lent) map[string]*int {
		return map[string]*int{"Source": &x.Source, "Borrower": &x.Borrower, "Paper": &x.Paper, "Day": &x.Day, "Due": &x.Due, "Leaves": &x.Leaves, "Known": &x.Known, "Until": &x.Until}
	}
	account := func(l []api.Lent) api.Account { return api.Account{Lents: l} }
	checkChanges(t, x, fields, due.CheckLent, api.ErrLent, account, common()...)
	checkChanges(t, x, fields, due.CheckLent, api.ErrLent, account, []change{
		{"Borrower", 1, true}, {"Borrower", 99, true}, {"Borrower", 0, false}, {"Borrower", 100, false},
		{"Paper", 1, true}, {"Paper", 999, true}, {"Paper", 0, false}, {"Paper", 1000, false},
		{"Day", 0, true}, {"Day", 40, true}, {"Day", 41, false}, {"Day", -1, false}, {"Day", math.MinInt, false},
		{"Due", 10, true}, {"Due", 61, true}, {"Due", 100000, true}, {"Due", 100001, false}, {"Due", 9, false},
		{"Leaves", 1, true}, {"Leaves", 200, true}, {"Leaves", 0, false}, {"Leaves", 201, false}, {"Leaves", -1, false},
	}...)
	x.Known, x.Until = 0, 0
	checkChanges(t, x, fields, due.CheckLent, api.ErrLent, account, []change{
		{"Known", 0, true}, {"Known", 100000, true}, {"Known", 100001, false}, {"Until", 1, true},
	}...)
}

func TestP71CheckBack(t *testing.T) {
	x := api.Back{Source: 5, Loan: 7, Leaves: 5, Day: span(20, 60), Known: 60, Until: 70}
	fields := func(x *api.Back) map[string]*int {
		return map[string]*int{"Source": &x.Source, "Loan": &x.Loan, "Leaves": &x.Leaves, "Lo": &x.Day.Lo, "Hi": &x.Day.Hi, "Known": &x.Known, "Until": &x.Until}
	}
	account := func(l []api.Back) api.Account { return api.Account{Backs: l} }
	checkChanges(t, x, fields, due.CheckBack, api.ErrBack, account, common()...)
	checkChanges(t, x, fields, due.CheckBack, api.ErrBack, account, named()...)
	checkChanges(t, x, fields, due.CheckBack, api.ErrBack, account, []change{
		{"Leaves", 1, true}, {"Leaves", 200, true}, {"Leaves", 0, false}, {"Leaves", 201, false}, {"Leaves", math.MinInt, false},
		{"Lo", 0, true}, {"Lo", 60, true}, {"Lo", 61, false}, {"Lo", -1, false},
		{"Hi", 20, true}, {"Hi", 59, true}, {"Hi", 19, false}, {"Hi", 61, false}, {"Hi", math.MaxInt, false},
		{"Known", 59, false},
	}...)
	x.Day, x.Known, x.Until = span(100000, 100000), 100000, 0
	checkChanges(t, x, fields, due.CheckBack, api.ErrBack, account, change{"nothing", 0, true}, change{"Known", 100001, false}, change{"Until", 100001, false})
	x.Day, x.Known = span(0, 0), 0
	checkChanges(t, x, fields, due.CheckBack, api.ErrBack, account, change{"nothing", 0, true}, change{"Hi", 1, false}, change{"Lo", -1, false})
}

func TestP71CheckAsking(t *testing.T) {
	x := api.Asking{Source: 5, Loan: 7, Day: 60, Known: 60, Until: 70}
	fields := func(x *api.Asking) map[string]*int {
		return map[string]*int{"Source": &x.Source, "Loan": &x.Loan, "Day": &x.Day, "Known": &x.Known, "Until": &x.Until}
	}
	account := func(l []api.Asking) api.Account { return api.Account{Askings: l} }
	checkChanges(t, x, fields, due.CheckAsking, api.ErrAsk, account, common()...)
	checkChanges(t, x, fields, due.CheckAsking, api.ErrAsk, account, named()...)
	checkChanges(t, x, fields, due.CheckAsking, api.ErrAsk, account, []change{
		{"Day", 0, true}, {"Day", 59, true}, {"Day", 61, false}, {"Day", -1, false}, {"Day", math.MaxInt, false}, {"Known", 59, false},
	}...)
	x.Day, x.Known, x.Until = 100000, 100000, 0
	checkChanges(t, x, fields, due.CheckAsking, api.ErrAsk, account, change{"nothing", 0, true}, change{"Known", 100001, false})
}

func TestP71CheckPayment(t *testing.T) {
	x := api.Payment{Source: 5, Loan: 7, Pence: 20, Known: 60, Until: 70}
	fields := func(x *api.Payment) map[string]*int {
		return map[string]*int{"Source": &x.Source, "Loan": &x.Loan, "Pence": &x.Pence, "Known": &x.Known, "Until": &x.Until}
	}
	account := func(l []api.Payment) api.Account { return api.Account{Payments: l} }
	checkChanges(t, x, fields, due.CheckPayment, api.ErrPay, account, common()...)
	checkChanges(t, x, fields, due.CheckPayment, api.ErrPay, account, named()...)
	checkChanges(t, x, fields, due.CheckPayment, api.ErrPay, account, []change{
		{"Pence", 1, true}, {"Pence", 1000000, true}, {"Pence", 0, false}, {"Pence", 1000001, false}, {"Pence", -1, false}, {"Pence", math.MinInt, false},
		{"Known", 0, true}, {"Known", 1, true},
	}...)
	x.Until = 0
	checkChanges(t, x, fields, due.CheckPayment, api.ErrPay, account, change{"Known", 100000, true}, change{"Known", 100001, false})
}

func TestP71CheckSurety(t *testing.T) {
	x := api.Surety{Source: 5, Loan: 7, Person: 8, Worth: 100, Known: 60, Until: 70}
	fields := func(x *api.Surety) map[string]*int {
		return map[string]*int{"Source": &x.Source, "Loan": &x.Loan, "Person": &x.Person, "Worth": &x.Worth, "Known": &x.Known, "Until": &x.Until}
	}
	account := func(l []api.Surety) api.Account { return api.Account{Sureties: l} }
	checkChanges(t, x, fields, due.CheckSurety, api.ErrSurety, account, common()...)
	checkChanges(t, x, fields, due.CheckSurety, api.ErrSurety, account, named()...)
	checkChanges(t, x, fields, due.CheckSurety, api.ErrSurety, account, []change{
		{"Person", 1, true}, {"Person", 99, true}, {"Person", 0, false}, {"Person", 100, false},
		{"Worth", 0, true}, {"Worth", 1000000, true}, {"Worth", 1000001, false}, {"Worth", -1, false}, {"Worth", math.MaxInt, false},
		{"Known", 0, true}, {"Known", 1, true},
	}...)
	x.Until = 0
	checkChanges(t, x, fields, due.CheckSurety, api.ErrSurety, account, change{"Known", 100000, true}, change{"Known", 100001, false})
}

func TestP71Check(t *testing.T) {
	for _, c := range []struct {
		name   string
		change func(a *api.Account)
		valid  bool
	}{
		{"as it is", func(a *api.Account) {}, true},
		{"nothing", func(a *api.Account) { *a = api.Account{} }, true},
		{"as much as may be", func(a *api.Account) { *a = full() }, true},
		{"11 rules", func(a *api.Account) { *a = full(); a.Rules = append(a.Rules, api.Rule{From: 99}) }, false},
		{"61 loans", func(a *api.Account) { *a = full(); a.Lents = slices.Insert(a.Lents, 0, lent(1, 1, 0, 0, 1)) }, false},
		{"61 returns", func(a *api.Account) { *a = full(); a.Backs = slices.Insert(a.Backs, 0, back(1, 1, 1, 0, 0)) }, false},
		{"61 askings", func(a *api.Account) { *a = full(); a.Askings = slices.Insert(a.Askings, 0, asking(1, 1, 1)) }, false},
		{"61 payments", func(a *api.Account) { *a = full(); a.Payments = slices.Insert(a.Payments, 0, payment(1, 1, 1)) }, false},
		{"61 sureties", func(a *api.Account) { *a = full(); a.Sureties = slices.Insert(a.Sureties, 0, surety(1, 1, 1, 1)) }, false},
		{"several rules", func(a *api.Account) { a.Rules = append(a.Rules, api.Rule{From: 1}, api.Rule{From: 5}) }, true},
		{"a rule twice", func(a *api.Account) { a.Rules = append(a.Rules, a.Rules[0]) }, false},
		{"rules out of order", func(a *api.Account) { a.Rules = []api.Rule{{From: 5}, {From: 4}} }, false},
		{"loans", func(a *api.Account) { a.Lents = append(a.Lents, lent(2, 7, 10, 40, 5)) }, true},
		{"a loan twice", func(a *api.Account) { a.Lents = append(a.Lents, a.Lents[0]) }, false},
		{"loans out of order", func(a *api.Account) { a.Lents = []api.Lent{lent(2, 7, 10, 40, 5), a.Lents[0]} }, false},
		{"a second loan that is none", func(a *api.Account) { a.Lents = append(a.Lents, lent(2, 7, 10, 40, 0)) }, false},
		{"returns out of order", func(a *api.Account) { slices.Reverse(a.Backs) }, false},
		{"a return twice", func(a *api.Account) { a.Backs[1].Source = 11 }, false},
		{"a second return that is none", func(a *api.Account) { a.Backs[1].Leaves = 0 }, false},
		{"askings", func(a *api.Account) { a.Askings = append(a.Askings, asking(22, 1, 49)) }, true},
		{"an asking twice", func(a *api.Account) { a.Askings = append(a.Askings, asking(21, 1, 51)) }, false},
		{"askings out of order", func(a *api.Account) { a.Askings = append(a.Askings, asking(20, 1, 51)) }, false},
		{"a payment twice", func(a *api.Account) { a.Payments = append(a.Payments, payment(31, 1, 5)) }, false},
		{"payments out of order", func(a *api.Account) { a.Payments = append(a.Payments, payment(30, 1, 5)) }, false},
		{"a surety twice", func(a *api.Account) { a.Sureties[1].Source = 41 }, false},
		{"sureties out of order", func(a *api.Account) { slices.Reverse(a.Sureties) }, false},
		{"one source in each kind", func(a *api.Account) {
			a.Backs, a.Sureties = a.Backs[:1], a.Sureties[:1]
			a.Backs[0].Source, a.Askings[0].Source, a.Payments[0].Source, a.Sureties[0].Source = 1, 1, 1, 1
		}, true},
		{"loans that are not there", func(a *api.Account) {
			a.Backs[0].Loan, a.Askings[0].Loan, a.Payments[0].Loan, a.Sureties[0].Loan = 2, 3, 4, 5
		}, true},
	} {
		a := example()
		c.change(&a)
		expect(t, "Check of "+c.name, results(due.Check(a)), verdict(c.valid, api.ErrAccount))
		if _, e := due.Dates(a); e != verdict(c.valid, api.ErrAccount) {
			t.Errorf("Dates of %s: %v", c.name, e)
		}
	}
}

// args are arguments, of which each call takes some.
type args struct {
	a                           api.Account
	b                           api.Back
	loan, known, person, source int
	days, dates                 []int
	posts                       []api.Posting
}

// call is a function, what it takes beside an account, in words, and its other results with an error.
type call struct {
	name, takes string
	none        result
	ask         func(x args) result
}

func calls() []call {
	number, list, of := results(0), results(none), results(span(0, 0))
	return []call{
		{"Returned", "back", results(api.Account{}), func(x args) result { return results(due.Returned(x.a, x.b)) }},
		{"Dates", "", list, func(x args) result { return results(due.Dates(x.a)) }},
		{"Start", "loan known asked", number, func(x args) result { return results(due.Start(x.a, x.loan, x.known)) }},
		{"Out", "loan known", number, func(x args) result { return results(due.Out(x.a, x.loan, x.known)) }},
		{"Late", "loan known", of, func(x args) result { return results(due.Late(x.a, x.loan, x.known)) }},
		{"Lost", "loan known", number, func(x args) result { return results(due.Lost(x.a, x.loan, x.known)) }},
		{"Fine", "loan known", of, func(x args) result { return results(due.Fine(x.a, x.loan, x.known)) }},
		{"CheckDays", "loan known days", nil, func(x args) result { return results(due.CheckDays(x.a, x.loan, x.known, x.days)) }},
		{"Truly", "loan known days", number, func(x args) result { return results(due.Truly(x.a, x.loan, x.known, x.days)) }},
		{"Owed", "loan known", number, func(x args) result { return results(due.Owed(x.a, x.loan, x.known)) }},
		{"Shares", "loan known", list, func(x args) result { return results(due.Shares(x.a, x.loan, x.known)) }},
		{"Overdue", "known", list, func(x args) result { return results(due.Overdue(x.a, x.known)) }},
		{"Posts", "dates", list, func(x args) result { return results(due.Posts(x.a, x.dates)) }},
		{"CheckPosts", "dates posts", nil, func(x args) result { return results(due.CheckPosts(x.a, x.dates, x.posts)) }},
		{"Balance", "dates person", number, func(x args) result { return results(due.Balance(x.a, x.dates, x.person)) }},
		{"Moved", "known source", list, func(x args) result { return results(due.Moved(x.a, x.source, x.known)) }},
	}
}

// wrongDates returns lists that are no days of postings.
func wrongDates() [][]int {
	var many []int
	for i := range api.MaxDays + 1 {
		many = append(many, 60+i)
	}
	return [][]int{days(-1), days(100001), days(60, 100001), days(-1, 60), days(60, 60), days(90, 60), days(60, 90, 80), days(math.MinInt), days(math.MaxInt), many}
}

// TestP71Errors gives each function ever fewer wrong arguments: the error named first is due.
func TestP71Errors(t *testing.T) {
	for _, c := range calls() {
		x := args{a: wrong(), known: -1, days: days(1, 2, 3), dates: days(5, 4), posts: []api.Posting{{}}}
		takes := func(word string) bool { return slices.Contains(strings.Fields(c.takes), word) }
		refuse := func(when bool, e api.Errno) {
			t.Helper()
			got := c.ask(x)
			if is := got[len(got)-1] == e; is != when {
				t.Errorf("%s of %v: %v; the error %v is expected: %v", c.name, x, got, e, when)
			} else if is {
				expect(t, c.name+" with an error", got[:len(got)-1], c.none...)
			}
		}
		refuse(true, api.ErrAccount)
		x.a = example()
		refuse(takes("back"), api.ErrBack)
		for _, x.known = range []int{-1, api.MaxDay + 1, math.MinInt, math.MaxInt} {
			refuse(takes("known") || takes("dates"), api.ErrDay)
		}
		for _, x.known = range []int{0, api.MaxDay} {
			for _, x.dates = range wrongDates() {
				refuse(takes("dates"), api.ErrDay)
			}
			for _, x.loan = range []int{0, 2, 11, -1, math.MinInt, math.MaxInt} {
				x.source = x.loan * 99
				refuse(takes("loan") || takes("source"), api.ErrNone)
			}
		}
		x.dates, x.known, x.loan, x.source = days(60, 90, 111), 9, 1, 3
		refuse(takes("loan") || takes("source"), api.ErrNone)
		x.known, x.source = 49, 1
		refuse(takes("asked"), api.ErrNone)
		x.known = 90
		for _, x.person = range []int{0, 100, -1, math.MinInt, math.MaxInt} {
			refuse(takes("person"), api.ErrShare)
		}
		x.person = 99
		refuse(takes("days"), api.ErrDays)
		refuse(takes("posts"), api.ErrPosts)
		x.days, x.b = days(36, 70), back(13, 1, 1, 5, 6)
		x.posts = []api.Posting{posting(60, 1, 7, 60), posting(90, 1, 7, 100), posting(111, 1, 7, -160), posting(111, 1, 8, 100), posting(111, 1, 9, 82)}
		got := c.ask(x)
		expect(t, c.name+" without an error", got[len(got)-1:], api.OK)
	}
}

// TestP71Any calls all functions with random arguments, most of them wrong: they return.
func TestP71Any(t *testing.T) {
	r := rand.New(rand.NewPCG(73, 7))
	number := func() int {
		return []int{math.MinInt, -1, 0, 1, 2, 3, 5, 7, 20, 60, 99, 360, 1000, 99999, 100000, 100001, math.MaxInt}[r.IntN(17)]
	}
	list := func() []int {
		l := make([]int, r.IntN(4))
		for i := range l {
			l[i] = number()
		}
		return l
	}
	for range 3000 {
		a := someAccount(r, 4)
		b := api.Back{Source: number(), Loan: number(), Leaves: number(), Day: span(number(), number()), Known: number(), Until: number()}
		switch r.IntN(8) {
		case 0:
			a.Lents = append(a.Lents, api.Lent{Source: number(), Borrower: number(), Paper: number(), Day: number(), Due: number(), Leaves: number(), Known: number(), Until: number()})
		case 1:
			a.Backs = append(a.Backs, b)
		case 2:
			a.Askings = append(a.Askings, api.Asking{Source: number(), Loan: number(), Day: number(), Known: number(), Until: number()})
		case 3:
			a.Payments = append(a.Payments, api.Payment{Source: number(), Loan: number(), Pence: number(), Known: number(), Until: number()})
		case 4:
			a.Sureties = append(a.Sureties, api.Surety{Source: number(), Loan: number(), Person: number(), Worth: number(), Known: number(), Until: number()})
		}
		due.CheckBack(b)
		x := args{a: a, b: b, loan: number(), known: number(), person: number(), source: number(), days: list(), dates: list(), posts: []api.Posting{posting(number(), number(), number(), number())}}
		for _, c := range calls() {
			c.ask(x)
			x.known, x.loan = 20, 1
			c.ask(x)
		}
	}
}

// TestP71Many hands in lists that are much too long.
func TestP71Many(t *testing.T) {
	const much = 1 << 20
	ones := slices.Repeat(days(1), much)
	for name, change := range map[string]func(a *api.Account){
		"rules":    func(a *api.Account) { a.Rules = slices.Repeat(a.Rules, much) },
		"loans":    func(a *api.Account) { a.Lents = slices.Repeat(a.Lents, much) },
		"returns":  func(a *api.Account) { a.Backs = slices.Repeat(a.Backs, much) },
		"askings":  func(a *api.Account) { a.Askings = slices.Repeat(a.Askings, much) },
		"payments": func(a *api.Account) { a.Payments = slices.Repeat(a.Payments, much) },
		"sureties": func(a *api.Account) { a.Sureties = slices.Repeat(a.Sureties, much) },
	} {
		a := example()
		change(&a)
		for _, c := range calls() {
			if got := c.ask(args{a: a}); got[len(got)-1] != api.ErrAccount {
				t.Errorf("%s with many %s: %v", c.name, name, got[len(got)-1])
			}
		}
	}
	expect(t, "CheckDays of many", results(due.CheckDays(example(), 1, 90, ones)), api.ErrDays)
	expect(t, "Truly of many", results(due.Truly(example(), 1, 90, ones)), 0, api.ErrDays)
	expect(t, "Posts of many", results(due.Posts(example(), ones)), none, api.ErrDay)
	expect(t, "CheckPosts of many", results(due.CheckPosts(example(), days(60), make([]api.Posting, much))), api.ErrPosts)
}

// TestP71Memory changes what was returned: what was handed in stays as it was.
func TestP71Memory(t *testing.T) {
	a := example()
	more, _ := due.Returned(a, back(13, 1, 1, 5, 6))
	clear(more.Rules)
	clear(more.Lents)
	clear(more.Backs)
	clear(more.Askings)
	clear(more.Payments)
	clear(more.Sureties)
	expect(t, "the account handed in", results(a), example())
	// Room behind the list is not written to.
	a.Backs = slices.Grow(a.Backs, 5)
	spare := a.Backs[:3]
	due.Returned(a, back(13, 1, 1, 5, 6))
	due.Returned(a, back(10, 1, 1, 5, 6))
	expect(t, "the room behind the returns", results(spare[2]), api.Back{})
	list, dates, posts := days(36, 70), days(60, 90), []api.Posting{posting(60, 1, 7, 60), posting(90, 1, 7, 100)}
	for _, c := range calls() {
		for _, v := range c.ask(args{a: a, b: back(13, 1, 1, 5, 6), loan: 1, known: 90, person: 7, source: 11, days: list, dates: dates, posts: posts}) {
			switch l := v.(type) {
			case []int:
				clear(l)
			case []api.Share:
				clear(l)
			case []api.Posting:
				clear(l)
			}
		}
	}
	expect(t, "the account asked", results(a), example())
	expect(t, "the lists handed in", results(list, dates, posts), days(36, 70), days(60, 90), []api.Posting{posting(60, 1, 7, 60), posting(90, 1, 7, 100)})
}
