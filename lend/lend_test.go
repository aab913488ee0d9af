package lend_test

import (
	"fmt"
	"math"
	"testing"

	"parvise/api"
	"parvise/lend"
)

// sent is the stock of the chapter's example that sends the paper 7.
func sent() api.Stock {
	s := api.Stock{Holds: papers(9), Sent: [6]int{1: 1}}
	s.Under[1] = parcels(1, 7)
	return s
}

func TestP91Examples(t *testing.T) {
	had := api.Stock{Holds: papers(7, 9)}
	a, e := lend.New(0, papers(7, 9))
	expect(t, "New", results(a, e), api.Desk{Me: 0, Now: had, Pages: [2]api.Page{page(had, 1), page(api.Stock{}, 0)}, Wet: -1}, api.OK)
	expect(t, "Print of A", results(lend.Print(a.Now)), "holds 7 9\nsent 0 0 0 0 0 0\ntaken 0 0 0 0 0 0\n", api.OK)

	s, e := lend.Send(a, 7, 1)
	expect(t, "Send", results(s, e), api.Desk{Me: 0, Now: sent(), Pages: a.Pages, Wet: -1}, api.OK)
	expect(t, "Holds", results(lend.Holds(s)), papers(9), api.OK)
	expect(t, "Under", results(lend.Under(s, 1)), papers(7), api.OK)

	w, e := lend.Write(s)
	expect(t, "Write", results(w, e), api.Desk{Me: 0, Now: sent(), Pages: [2]api.Page{page(had, 1), page(sent(), 2)}, Wet: 1}, api.OK)
	dry, e := lend.Dry(w)
	expect(t, "Dry", results(dry, e), api.Desk{Me: 0, Now: sent(), Pages: w.Pages, Wet: -1}, api.OK)
	expect(t, "Pack", results(lend.Pack(s, 1)), api.Bag{From: 0, To: 1}, api.OK)
	expect(t, "Pack of Write", results(lend.Pack(w, 1)), api.Bag{From: 0, To: 1}, api.OK)
	expect(t, "Pack of Dry", results(lend.Pack(dry, 1)), api.Bag{From: 0, To: 1, Parcels: parcels(1, 7)}, api.OK)

	lost, e := lend.Flood(w, 1)
	smeared := page(sent(), 2)
	smeared.Sum++
	expect(t, "Flood with 1", results(lost, e), api.Desk{Me: 0, Now: had, Pages: [2]api.Page{page(had, 1), smeared}, Wet: -1}, api.OK)
	kept, e := lend.Flood(w, 0)
	expect(t, "Flood with 0", results(kept, e), dry, api.OK)

	expect(t, "Send of 8", results(lend.Send(a, 8, 1)), api.Desk{}, api.ErrAway)
	expect(t, "Send to 0", results(lend.Send(a, 7, 0)), api.Desk{}, api.ErrTown)
}

func TestP91ExampleBags(t *testing.T) {
	a, e := lend.Send(newDesk(t, 0, 7, 9), 7, 1)
	expect(t, "Send", results(e), api.OK)
	a = dried(t, a)
	b := newDesk(t, 1)
	bag, e := lend.Pack(a, 1)
	expect(t, "Pack", results(bag, e), api.Bag{From: 0, To: 1, Parcels: parcels(1, 7)}, api.OK)
	both := []api.Desk{a, b}
	expect(t, "Where ahead", results(lend.Where(both, 7)), none, api.OK)
	expect(t, "Carried ahead", results(lend.Carried(both, 7)), [][2]int{{0, 1}}, api.OK)

	got, e := lend.Open(b, bag)
	want := b
	want.Now = api.Stock{Holds: papers(7), Taken: [6]int{0: 1}}
	expect(t, "Open", results(got, e), want, api.OK)
	expect(t, "Holds", results(lend.Holds(got)), papers(7), api.OK)
	expect(t, "Open again", results(lend.Open(got, bag)), want, api.OK)
	both = []api.Desk{a, got}
	expect(t, "Where behind", results(lend.Where(both, 7)), papers(1), api.OK)
	expect(t, "Carried behind", results(lend.Carried(both, 7)), none, api.OK)

	back, e := lend.Pack(dried(t, got), 0)
	expect(t, "Pack of B", results(back, e), api.Bag{From: 1, To: 0, Taken: 1}, api.OK)
	heard, e := lend.Open(a, back)
	expect(t, "Open by A", results(heard.Now, e), api.Stock{Holds: papers(9), Sent: [6]int{1: 1}}, api.OK)
	expect(t, "Under", results(lend.Under(heard, 1)), none, api.OK)

	flooded, e := lend.Flood(got, 1)
	expect(t, "Flood of B", results(flooded, e), b, api.OK)
	expect(t, "Open behind the flood", results(lend.Open(flooded, bag)), want, api.OK)
}

// TestP91Sum has sums that were found elsewhere.
func TestP91Sum(t *testing.T) {
	had := api.Stock{Holds: papers(7, 9)}
	for _, c := range []struct {
		s      api.Stock
		n, sum int
	}{{api.Stock{}, 0, 493827}, {api.Stock{}, 99999, 603542}, {had, 1, 707989}, {had, 2, 735141}, {sent(), 2, 288542}} {
		expect(t, fmt.Sprint("Sum of ", c.s, c.n), results(lend.Sum(c.s, c.n)), c.sum, api.OK)
	}
	for _, n := range []int{-1, 100000, math.MinInt, math.MaxInt, api.PageSum} {
		expect(t, fmt.Sprint("Sum with ", n), results(lend.Sum(had, n)), 0, api.ErrArg)
		expect(t, fmt.Sprint("Sum of nobody's with ", n), results(lend.Sum(api.Stock{Holds: papers(0)}, n)), 0, api.ErrStock)
	}
	expect(t, "Sum of the longest", results(lend.Sum(full(), 99999)), plainSum(full(), 99999), api.OK)
}

func TestP91New(t *testing.T) {
	for _, l := range [][]int{nil, {}, {1}, {999}, {1, 2, 999}, upTo(40)} {
		for me := range api.MaxParishes {
			want := api.Desk{Me: me, Now: api.Stock{Holds: l}, Pages: [2]api.Page{page(api.Stock{Holds: l}, 1), page(api.Stock{}, 0)}, Wet: -1}
			got, e := lend.New(me, l)
			expect(t, fmt.Sprint("New ", me, l), results(got, e, lend.Check(got)), want, api.OK, api.OK)
		}
		for _, me := range []int{-1, 6, math.MinInt, math.MaxInt} {
			expect(t, fmt.Sprint("New ", me, l), results(lend.New(me, l)), api.Desk{}, api.ErrTown)
		}
	}
	for _, l := range [][]int{{0}, {1000}, {-1}, {math.MinInt}, {2, 1}, {1, 1}, {1, 2, 2}, {1, 1000}, {0, 1}, upTo(41)} {
		expect(t, fmt.Sprint("New 5 ", l), results(lend.New(5, l)), api.Desk{}, api.ErrArg)
		expect(t, fmt.Sprint("New 6 ", l), results(lend.New(6, l)), api.Desk{}, api.ErrTown)
	}
}

func TestP91Send(t *testing.T) {
	d := dryDesk(2, example())
	for _, c := range []struct {
		paper, to int
		holds     []int
		under     []api.Parcel
	}{
		{3, 0, papers(7, 999), parcels(4, 10, 7, 3)}, {7, 0, papers(3, 999), parcels(4, 10, 7, 7)}, {999, 0, papers(3, 7), parcels(4, 10, 7, 999)},
		{3, 1, papers(7, 999), parcels(1, 3)}, {3, 4, papers(7, 999), parcels(10, 3)}, {7, 5, papers(3, 999), parcels(1, 1, 7)},
	} {
		want := clonedDesk(d)
		want.Now.Holds, want.Now.Under[c.to] = c.holds, c.under
		want.Now.Sent[c.to]++
		expect(t, fmt.Sprint("Send ", c.paper, c.to), results(lend.Send(d, c.paper, c.to)), want, api.OK)
	}
	for _, c := range []struct {
		paper, to int
		e         api.Errno
	}{
		{0, 2, api.ErrArg}, {1000, 6, api.ErrArg}, {-1, -1, api.ErrArg}, {math.MinInt, 0, api.ErrArg}, {math.MaxInt, 0, api.ErrArg},
		{3, 2, api.ErrTown}, {4, 2, api.ErrTown}, {4, 6, api.ErrTown}, {3, -1, api.ErrTown}, {3, math.MaxInt, api.ErrTown}, {3, math.MinInt, api.ErrTown},
		{4, 0, api.ErrAway}, {1, 0, api.ErrAway}, {10, 0, api.ErrAway}, {4, 3, api.ErrAway}, {3, 3, api.ErrLong},
	} {
		expect(t, fmt.Sprint("Send ", c.paper, c.to), results(lend.Send(d, c.paper, c.to)), api.Desk{}, c.e)
		expect(t, fmt.Sprint("Send of no desk ", c.paper, c.to), results(lend.Send(api.Desk{}, c.paper, c.to)), api.Desk{}, api.ErrDesk)
	}
}

// TestP91SendMany sends as many as may be.
func TestP91SendMany(t *testing.T) {
	d := newDesk(t, 2, upTo(40)...)
	for paper := range 40 {
		var e api.Errno
		d, e = lend.Send(d, 1+paper, 4)
		expect(t, "Send", results(e), api.OK)
	}
	expect(t, "Under", results(lend.Under(d, 4)), upTo(40), api.OK)
	expect(t, "Holds", results(lend.Holds(d)), none, api.OK)
	d.Now.Holds = papers(7)
	expect(t, "Send of a 41st", results(lend.Send(d, 7, 4)), api.Desk{}, api.ErrLong)
	expect(t, "Send of what is away", results(lend.Send(d, 8, 4)), api.Desk{}, api.ErrAway)
	d.Now.Under[4], d.Now.Sent[4] = nil, 99998
	d, e := lend.Send(d, 7, 4)
	expect(t, "Send of the last one", results(d.Now.Under[4], d.Now.Sent[4], e), parcels(99999, 7), 99999, api.OK)
	d.Now.Holds, d.Now.Under[4] = papers(7), nil
	expect(t, "Send behind the last one", results(lend.Send(d, 7, 4)), api.Desk{}, api.ErrLong)
	_, e = lend.Send(d, 7, 3)
	expect(t, "Send to another one", results(e), api.OK)
}

func TestP91Write(t *testing.T) {
	now, old, other := example(), api.Stock{Holds: papers(1)}, api.Stock{Holds: papers(2)}
	for _, c := range []struct {
		name          string
		wet           int
		first, second api.Page
		at, count     int
	}{
		{"both are right", -1, page(old, 3), page(other, 8), 0, 9},
		{"both are right, the other way round", -1, page(old, 8), page(other, 3), 1, 9},
		{"the lesser one is not right", -1, wrong(old, 3), page(other, 8), 0, 9},
		{"the greater one is not right", -1, page(old, 3), wrong(other, 8), 1, 4},
		{"the first one is not right", -1, wrong(old, 8), page(other, 3), 0, 4},
		{"one that is not right has the same count", -1, page(old, 3), wrong(other, 3), 1, 4},
		{"the first one is wet", 0, page(old, 8), page(other, 3), 0, 8},
		{"the second one is wet", 1, page(old, 3), page(other, 8), 1, 8},
		{"the last page but one", -1, page(old, 3), page(other, 99998), 0, 99999},
		{"the last page is wet", 1, page(old, 3), page(other, 99999), 1, 99999},
		{"the last page is not right", -1, page(old, 99998), wrong(other, 99999), 1, 99999},
	} {
		d := desk(now, c.wet, c.first, c.second)
		want := clonedDesk(d)
		want.Pages[c.at], want.Wet = page(now, c.count), c.at
		got, e := lend.Write(d)
		expect(t, "Write, "+c.name, results(got, e, lend.Check(got)), want, api.OK, api.OK)
	}
	for _, pages := range [][2]api.Page{{page(old, 3), page(other, 99999)}, {page(old, 99999), wrong(other, 3)}, {wrong(old, 3), page(other, 99999)}} {
		expect(t, "Write behind the last page", results(lend.Write(desk(now, -1, pages[0], pages[1]))), api.Desk{}, api.ErrLong)
	}
}

func TestP91Dry(t *testing.T) {
	for _, wet := range []int{-1, 0, 1} {
		d := desk(example(), wet, page(api.Stock{}, 3), page(api.Stock{Holds: papers(1)}, 4))
		if wet == 0 {
			d.Pages[0] = page(api.Stock{}, 5)
		}
		want := clonedDesk(d)
		want.Wet = -1
		expect(t, fmt.Sprint("Dry, ", wet), results(lend.Dry(d)), want, api.OK)
	}
}

func TestP91Flood(t *testing.T) {
	now, old, other := example(), api.Stock{Holds: papers(1)}, api.Stock{Holds: papers(2)}
	for _, smear := range []int{0, 1, 2, 3, -1, -2, -3, math.MinInt, math.MaxInt, math.MinInt + 1} {
		odd := smear&1 == 1
		for wet, d := range []api.Desk{desk(now, 0, page(old, 8), page(other, 3)), desk(now, 1, page(other, 3), page(old, 8))} {
			want := clonedDesk(d)
			want.Wet, want.Now = -1, old
			if odd {
				want.Pages[wet].Sum++
				want.Now = other
			}
			got, e := lend.Flood(d, smear)
			expect(t, fmt.Sprint("Flood with ", smear), results(got, e, lend.Check(got)), want, api.OK, api.OK)
		}
		for _, d := range []api.Desk{desk(now, -1, page(old, 8), page(other, 3)), desk(now, -1, page(other, 3), page(old, 8)), desk(now, -1, page(old, 3), wrong(other, 8)), desk(now, -1, wrong(other, 8), page(old, 3))} {
			want := clonedDesk(d)
			want.Now = old
			expect(t, fmt.Sprint("Flood of dry pages with ", smear), results(lend.Flood(d, smear)), want, api.OK)
		}
	}
}

// TestP91FloodSum smears a page that has the greatest sum.
func TestP91FloodSum(t *testing.T) {
	s := api.Stock{Holds: papers(105)}
	d := desk(s, 1, page(api.Stock{}, 0), page(s, 33898))
	expect(t, "the sum", results(d.Pages[1].Sum), api.PageSum-1)
	got, e := lend.Flood(d, 1)
	expect(t, "Flood", results(got.Pages[1].Sum, got.Now, e), 0, api.Stock{}, api.OK)
}

func TestP91Pack(t *testing.T) {
	firm := example()
	for wet, d := range map[int]api.Desk{
		-1: desk(api.Stock{}, -1, page(firm, 3), page(api.Stock{}, 2)),
		-2: desk(api.Stock{}, -1, page(firm, 3), wrong(api.Stock{}, 4)),
		1:  desk(full(), 1, page(firm, 3), page(full(), 4)),
		0:  desk(full(), 0, page(full(), 4), page(firm, 3)),
	} {
		for _, to := range []int{0, 1, 3, 4, 5} {
			want := api.Bag{From: 2, To: to, Parcels: firm.Under[to], Taken: firm.Taken[to]}
			got, e := lend.Pack(d, to)
			expect(t, fmt.Sprint("Pack to ", to, wet), results(got, e, lend.CheckBag(got)), want, api.OK, api.OK)
		}
		expect(t, fmt.Sprint("Firm ", wet), results(lend.Firm(d)), firm, api.OK)
	}
}

func TestP91Open(t *testing.T) {
	d := dryDesk(2, example())
	for _, c := range []struct {
		name    string
		from    int
		taken   int
		parcels []api.Parcel
		holds   []int // that are there then
		now     int   // how many were taken then
		under   []api.Parcel
	}{
		{"the next ones", 1, 0, parcels(5, 8, 4), papers(3, 4, 7, 8, 999), 6, nil},
		{"the next one behind others", 1, 0, parcels(3, 3, 7, 8), papers(3, 7, 8, 999), 5, nil},
		{"the first one and the last one", 4, 9, parcels(2, 998, 1), papers(1, 3, 7, 998, 999), 3, nil},
		{"later ones", 1, 0, parcels(6, 8, 4), papers(3, 7, 999), 4, nil},
		{"some that are taken", 1, 0, parcels(2, 8, 4, 7), papers(3, 7, 999), 4, nil},
		{"none", 1, 9, nil, papers(3, 7, 999), 4, nil},
		{"none, that tells of none", 0, 3, nil, papers(3, 7, 999), 0, parcels(4, 10, 7)},
		{"none, that tells of one", 0, 4, nil, papers(3, 7, 999), 0, parcels(5, 7)},
		{"none, that tells of all", 0, 5, nil, papers(3, 7, 999), 0, nil},
		{"none, that tells of more than all", 0, 99999, nil, papers(3, 7, 999), 0, nil},
		{"one that comes back", 0, 5, parcels(1, 10), papers(3, 7, 10, 999), 1, nil},
		{"one that seems to be under way", 0, 4, parcels(1, 10), papers(3, 7, 10, 999), 1, parcels(5, 7)},
		{"what comes behind the last number", 3, 99998, parcels(99999, 8), papers(3, 7, 999), 99999, parcels(99999, 999)},
	} {
		want := clonedDesk(d)
		want.Now.Holds, want.Now.Taken[c.from], want.Now.Under[c.from] = c.holds, c.now, c.under
		b := api.Bag{From: c.from, To: 2, Parcels: c.parcels, Taken: c.taken}
		expect(t, "Open of "+c.name, results(lend.Open(d, b)), want, api.OK)
		expect(t, "Open, again, of "+c.name, results(lend.Open(want, b)), want, api.OK)
	}
}

func TestP91OpenErrors(t *testing.T) {
	d := dryDesk(2, example())
	for _, c := range []struct {
		name    string
		parcels []api.Parcel
		e       api.Errno
	}{
		{"one that is here", parcels(5, 7), api.ErrHere}, {"one that is here behind another one", parcels(5, 8, 7), api.ErrHere}, {"one that comes twice", parcels(5, 8, 8), api.ErrHere},
		{"one that is here, taken already", parcels(4, 7, 8), api.OK}, {"one that is here, later", parcels(6, 7), api.OK},
	} {
		b := api.Bag{From: 1, To: 2, Parcels: c.parcels}
		got, e := lend.Open(d, b)
		expect(t, "Open of "+c.name, results(e), c.e)
		if e != api.OK {
			expect(t, "Open of "+c.name, results(got), api.Desk{})
		}
		expect(t, "Open by nobody of "+c.name, results(lend.Open(api.Desk{}, b)), api.Desk{}, api.ErrDesk)
	}
	s := api.Stock{Holds: upTo(40)}
	for many, e := range map[int]api.Errno{39: api.OK, 40: api.ErrLong} {
		s.Holds = upTo(many)
		d := dryDesk(2, s)
		_, got := lend.Open(d, api.Bag{From: 1, To: 2, Parcels: parcels(1, 50)})
		expect(t, fmt.Sprint("Open of one more than ", many), results(got), e)
		expect(t, "Open of two, the first one of which is here", results(lend.Open(d, api.Bag{From: 1, To: 2, Parcels: parcels(1, 9, 50)})), api.Desk{}, api.ErrHere)
		expect(t, "Open of three, the last one of which is here", results(lend.Open(d, api.Bag{From: 1, To: 2, Parcels: parcels(1, 50, 51, 9)})), api.Desk{}, api.ErrLong)
		expect(t, "Open of none", results(lend.Open(d, api.Bag{From: 1, To: 2, Parcels: parcels(2, 50)})), d, api.OK)
	}
}

func TestP91Lists(t *testing.T) {
	d := dryDesk(2, example())
	d.Pages[0] = page(api.Stock{Holds: papers(5)}, 1)
	expect(t, "Holds", results(lend.Holds(d)), papers(3, 7, 999), api.OK)
	for to, l := range map[int][]int{0: {10, 7}, 1: nil, 3: {7, 999}, 4: nil, 5: {1}} {
		expect(t, fmt.Sprint("Under ", to), results(lend.Under(d, to)), l, api.OK)
	}
	expect(t, "Firm", results(lend.Firm(d)), api.Stock{Holds: papers(5)}, api.OK)
	for _, to := range []int{2, -1, 6, math.MinInt, math.MaxInt} {
		expect(t, fmt.Sprint("Under ", to), results(lend.Under(d, to)), none, api.ErrTown)
		expect(t, fmt.Sprint("Under of no desk ", to), results(lend.Under(api.Desk{}, to)), none, api.ErrDesk)
		expect(t, fmt.Sprint("Pack ", to), results(lend.Pack(d, to)), api.Bag{}, api.ErrTown)
		expect(t, fmt.Sprint("Pack of no desk ", to), results(lend.Pack(api.Desk{}, to)), api.Bag{}, api.ErrDesk)
	}
}

// country returns desks of the parishes 0, 2 and 5, at which papers are in all ways.
func country() []api.Desk {
	zero := api.Stock{Holds: papers(1, 7), Sent: [6]int{2: 3, 3: 1, 5: 2}, Taken: [6]int{2: 4, 5: 1}}
	zero.Under[2], zero.Under[3], zero.Under[5] = parcels(2, 8, 8), parcels(1, 8), parcels(1, 9, 8)
	five := api.Stock{Holds: papers(7, 9), Sent: [6]int{0: 2}, Taken: [6]int{0: 1, 2: 1}}
	five.Under[0] = parcels(1, 8, 8)
	two := example()
	two.Taken[0] = 2
	return []api.Desk{dryDesk(0, zero), dryDesk(2, two), dryDesk(5, five)}
}

func TestP91Where(t *testing.T) {
	l := country()
	for paper, want := range map[int][]int{1: {0}, 3: {2}, 7: {0, 2, 5}, 8: nil, 9: {5}, 999: {2}, 10: nil} {
		expect(t, fmt.Sprint("Where ", paper), results(lend.Where(l, paper)), want, api.OK)
	}
	for paper, want := range map[int][][2]int{
		1:   nil,                              // 5 has taken the first parcel of 2
		7:   {{2, 0}, {2, 3}},                 // 0 has taken four of 2: the fifth one is carried; 3 is none of the desks
		8:   {{0, 2}, {0, 3}, {0, 5}, {5, 0}}, // of the parcels to 2 the last one, of those to 5 the last one, of those of 5 the last one
		9:   nil,                              // 5 has it
		10:  nil,                              // 0 has taken the fourth one
		999: {{2, 3}},                         // and it is here
	} {
		expect(t, fmt.Sprint("Carried ", paper), results(lend.Carried(l, paper)), want, api.OK)
	}
	expect(t, "Carried of 5 alone", results(lend.Carried(l[2:], 8)), [][2]int{{5, 0}, {5, 0}}, api.OK)
	expect(t, "Carried of none", results(lend.Carried(nil, 8)), none, api.OK)
	expect(t, "Where of none", results(lend.Where(nil, 8)), none, api.OK)
}

func TestP91Quiet(t *testing.T) {
	l := country()
	quiet := []api.Desk{newDesk(t, 0, 1), newDesk(t, 1), newDesk(t, 2, 2, 3), newDesk(t, 3), newDesk(t, 4), newDesk(t, 5, 999)}
	for _, c := range []struct {
		l     []api.Desk
		quiet bool
	}{{nil, true}, {quiet, true}, {l, false}, {l[2:], false}, {[]api.Desk{quiet[0], l[1]}, false}, {[]api.Desk{l[0], quiet[1]}, false}} {
		expect(t, "Quiet", results(lend.Quiet(c.l)), c.quiet, api.OK)
	}
	// What the pages say does not matter.
	d := desk(api.Stock{}, 1, page(example(), 1), page(full(), 2))
	expect(t, "Quiet of pages", results(lend.Quiet([]api.Desk{d})), true, api.OK)
	// A parcel that was taken is under way as long as that is not known.
	s := api.Stock{Taken: [6]int{0: 1}}
	expect(t, "Quiet of what was taken", results(lend.Quiet([]api.Desk{dryDesk(0, sent()), dryDesk(1, s)})), false, api.OK)
}
