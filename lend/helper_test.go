package lend_test

import (
	"fmt"
	"math/rand/v2"
	"slices"
	"testing"

	"parvise/api"
	"parvise/lend"
)

func papers(l ...int) []int { return l }

// parcels returns parcels with these papers, with numbers from the first one on.
func parcels(first int, papers ...int) []api.Parcel {
	var l []api.Parcel
	for i, paper := range papers {
		l = append(l, api.Parcel{No: first + i, Paper: paper})
	}
	return l
}

// upTo returns the numbers from 1 to n.
func upTo(n int) []int {
	var l []int
	for i := range n {
		l = append(l, 1+i)
	}
	return l
}

// example is a stock of the parish 2, and of no other one.
func example() api.Stock {
	s := api.Stock{Holds: papers(3, 7, 999), Sent: [6]int{5, 0, 0, 99999, 9, 1}, Taken: [6]int{0, 4, 0, 99999, 1, 2}}
	s.Under[0] = parcels(4, 10, 7)
	s.Under[3] = parcels(99998, 7, 999)
	s.Under[5] = parcels(1, 1)
	return s
}

// full is a stock of the parish 2 with as much as may be.
func full() api.Stock {
	s := api.Stock{}
	for i := range api.MaxHolds {
		s.Holds = append(s.Holds, api.MaxPaper-api.MaxHolds+1+i)
	}
	for to := range api.MaxParishes {
		if to != 2 {
			s.Sent[to], s.Taken[to] = api.MaxCount, api.MaxCount
			s.Under[to] = parcels(api.MaxCount-api.MaxParcels+1, s.Holds...)
		}
	}
	return s
}

// page returns a page that is right, if the stock is valid.
func page(s api.Stock, n int) api.Page {
	return api.Page{Count: n, Stock: clonedStock(s), Sum: plainSum(s, n)}
}

// wrong returns a page that is not right.
func wrong(s api.Stock, n int) api.Page {
	p := page(s, n)
	p.Sum = (p.Sum + 7) % api.PageSum
	return p
}

// desk returns the desk of the parish 2 that has a stock now.
func desk(now api.Stock, wet int, first, second api.Page) api.Desk {
	return api.Desk{Me: 2, Now: now, Pages: [2]api.Page{first, second}, Wet: wet}
}

// dryDesk returns the desk of a parish that has a stock now, and on its firm page.
func dryDesk(me int, s api.Stock) api.Desk {
	return api.Desk{Me: me, Now: s, Pages: [2]api.Page{page(s, 1), page(api.Stock{}, 0)}, Wet: -1}
}

// newDesk returns the desk of a parish with some papers.
func newDesk(t *testing.T, me int, papers ...int) api.Desk {
	t.Helper()
	d, e := lend.New(me, papers)
	if e != api.OK {
		t.Fatalf("New %d %v: %v", me, papers, e)
	}
	return d
}

// dried returns a desk that has written what it has, on a page that is dry.
func dried(t *testing.T, d api.Desk) api.Desk {
	t.Helper()
	d, e := lend.Write(d)
	dry, f := lend.Dry(d)
	if e != api.OK || f != api.OK {
		t.Fatalf("Write: %v, Dry: %v", e, f)
	}
	return dry
}

func clonedStock(s api.Stock) api.Stock {
	s.Holds = slices.Clone(s.Holds)
	for to, l := range s.Under {
		s.Under[to] = slices.Clone(l)
	}
	return s
}

// clonedDesk returns a desk that may be changed.
func clonedDesk(d api.Desk) api.Desk {
	d.Now = clonedStock(d.Now)
	for i, p := range d.Pages {
		d.Pages[i].Stock = clonedStock(p.Stock)
	}
	return d
}

// none is an empty list.
var none []int

// result is what a call returned: all its values.
type result []any

func results(values ...any) result { return values }

// expect compares what a call returned by its print, in which nil and empty lists are the same.
func expect(t *testing.T, call string, got result, want ...any) {
	t.Helper()
	if fmt.Sprintf("%+v", got) != fmt.Sprintf("%+v", result(want)) {
		t.Errorf("%s: %+v; expected %+v", call, got, want)
	}
}

// verdict is OK if something is so, and otherwise an error.
func verdict(ok bool, e api.Errno) api.Errno {
	if ok {
		return api.OK
	}
	return e
}

// somePapers returns at most so many papers, rising, of just a few that there are.
func somePapers(r *rand.Rand, most, few int) []int {
	l := r.Perm(few)[:r.IntN(min(most, few)+1)]
	for i := range l {
		l[i]++
	}
	slices.Sort(l)
	return l
}

const few = 9 // papers, and parcels, of random stocks

// someStock returns a valid one of a parish.
func someStock(r *rand.Rand, me int) api.Stock {
	s := api.Stock{Holds: somePapers(r, few, few)}
	if r.IntN(9) == 0 {
		s.Holds = somePapers(r, api.MaxHolds, api.MaxHolds+2)
	}
	for to := range api.MaxParishes {
		if to == me {
			continue
		}
		s.Sent[to], s.Taken[to] = r.IntN(few), r.IntN(few)
		if r.IntN(9) == 0 {
			s.Sent[to], s.Taken[to] = api.MaxCount-r.IntN(2), api.MaxCount-r.IntN(2)
		}
		many := min(s.Sent[to], r.IntN(4))
		if r.IntN(9) == 0 {
			many = min(s.Sent[to], api.MaxParcels-r.IntN(2))
		}
		for i := range many {
			s.Under[to] = append(s.Under[to], api.Parcel{No: s.Sent[to] - many + 1 + i, Paper: 1 + r.IntN(few)})
		}
	}
	return s
}

// someDesk returns a valid one.
func someDesk(r *rand.Rand, me int) api.Desk {
	d := api.Desk{Me: me, Now: someStock(r, me), Wet: r.IntN(3) - 1}
	lesser := r.IntN(3)
	if r.IntN(9) == 0 {
		lesser = api.MaxCount - 3
	}
	greater := lesser + 1 + r.IntN(3)
	at := r.IntN(2)
	if d.Wet >= 0 {
		at = d.Wet
	}
	d.Pages[at], d.Pages[1-at] = page(someStock(r, me), greater), page(someStock(r, me), lesser)
	if d.Wet < 0 && r.IntN(2) == 0 {
		p := &d.Pages[r.IntN(2)]
		*p = wrong(p.Stock, p.Count)
	}
	return d
}

// someBag returns a valid one, whose parcels may be the next ones of a desk.
func someBag(r *rand.Rand, d api.Desk) api.Bag {
	b := api.Bag{From: (d.Me + 1 + r.IntN(5)) % 6, To: d.Me, Taken: r.IntN(few)}
	first := max(1, d.Now.Taken[b.From]+2-r.IntN(4))
	for i := range min(r.IntN(5), api.MaxCount-first+1) {
		b.Parcels = append(b.Parcels, api.Parcel{No: first + i, Paper: 1 + r.IntN(3*few)})
	}
	return b
}

// someDesks returns desks.
func someDesks(r *rand.Rand) []api.Desk {
	var l []api.Desk
	for me := range api.MaxParishes {
		if r.IntN(3) > 0 {
			l = append(l, someDesk(r, me))
		}
	}
	return l
}

// eachSeed calls a function many times, with random numbers.
func eachSeed(t *testing.T, seed uint64, many int, f func(r *rand.Rand)) {
	t.Helper()
	for i := range many {
		f(rand.New(rand.NewPCG(seed, uint64(i))))
		if t.Failed() {
			t.Fatalf("the %d-th time", i)
		}
	}
}
