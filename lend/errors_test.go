package lend_test

import (
	"fmt"
	"math"
	"math/rand/v2"
	"slices"
	"strings"
	"testing"

	"parvise/api"
	"parvise/lend"
)

// checkStock expects that a stock is valid for the parish 2, or not, for all that takes it; and that it is valid for some parish, or not.
func checkStock(t *testing.T, name string, s api.Stock, valid, anywhere bool) {
	t.Helper()
	e, desks := verdict(valid, api.ErrStock), verdict(valid, api.ErrDesk)
	expect(t, "CheckStock with "+name, results(lend.CheckStock(2, s)), e)
	expect(t, "CheckPage with "+name, results(lend.CheckPage(2, page(s, 9))), verdict(valid, api.ErrPage))
	expect(t, "Check with "+name, results(lend.Check(desk(s, -1, page(api.Stock{}, 3), page(api.Stock{}, 2)))), desks)
	expect(t, "Check with a page with "+name, results(lend.Check(desk(api.Stock{}, -1, page(s, 3), wrong(api.Stock{}, 2)))), desks)
	expect(t, "Check with a wet page with "+name, results(lend.Check(desk(api.Stock{}, 0, page(s, 3), page(api.Stock{}, 2)))), desks)
	expect(t, "Check, page not asked, with "+name, results(lend.Check(desk(api.Stock{}, -1, wrong(s, 3), page(api.Stock{}, 3)))), api.OK)
	_, sum := lend.Sum(s, 9)
	_, text := lend.Print(s)
	expect(t, "Sum, Print with "+name, results(sum, text), verdict(anywhere, api.ErrStock), verdict(anywhere, api.ErrStock))
}

func TestP91CheckStock(t *testing.T) {
	checkStock(t, "nothing", api.Stock{}, true, true)
	checkStock(t, "the example", example(), true, true)
	checkStock(t, "as much as may be", full(), true, true)
	for me := -2; me < 9; me++ {
		expect(t, fmt.Sprint("CheckStock of nothing ", me), results(lend.CheckStock(me, api.Stock{})), verdict(0 <= me && me <= 5, api.ErrStock))
		expect(t, fmt.Sprint("CheckStock of ", me), results(lend.CheckStock(me, example())), verdict(me == 2, api.ErrStock))
		expect(t, fmt.Sprint("CheckPage of ", me), results(lend.CheckPage(me, page(example(), 1))), verdict(me == 2, api.ErrPage))
	}
	for _, me := range []int{math.MinInt, math.MaxInt} {
		expect(t, fmt.Sprint("CheckStock of nothing ", me), results(lend.CheckStock(me, api.Stock{})), api.ErrStock)
	}
	for _, c := range []struct {
		holds []int
		valid bool
	}{
		{nil, true}, {papers(1), true}, {papers(999), true}, {papers(1, 2), true}, {upTo(40), true}, {full().Holds, true},
		{papers(0), false}, {papers(1000), false}, {papers(-1), false}, {papers(math.MinInt), false}, {papers(math.MaxInt), false}, {papers(0, 1), false}, {papers(1, 1000), false},
		{papers(1, 1), false}, {papers(2, 1), false}, {papers(1, 3, 2), false}, {papers(1, 2, 2), false}, {upTo(41), false},
	} {
		s := example()
		s.Holds = c.holds
		checkStock(t, fmt.Sprint("Holds ", c.holds), s, c.valid, c.valid)
	}
	for _, n := range []int{0, 1, 99999, 100000, -1, math.MinInt, math.MaxInt} {
		count := 0 <= n && n <= 99999
		for to := range 6 {
			s := example()
			s.Taken[to] = n
			checkStock(t, fmt.Sprint("Taken of ", to, n), s, count && (to != 2 || n == 0), count && (to != 2 || n == 0))
			s = api.Stock{}
			s.Sent[to] = n
			checkStock(t, fmt.Sprint("Sent to ", to, n), s, count && (to != 2 || n == 0), count)
			s = api.Stock{}
			s.Taken[to] = n
			checkStock(t, fmt.Sprint("nothing, but Taken of ", to, n), s, count && (to != 2 || n == 0), count)
		}
	}
}

func TestP91CheckUnder(t *testing.T) {
	for _, c := range []struct {
		sent  int
		under []api.Parcel
		valid bool
	}{
		{0, nil, true}, {5, nil, true}, {1, parcels(1, 1), true}, {5, parcels(5, 999), true}, {5, parcels(1, 1, 2, 3, 4, 5), true}, {5, parcels(3, 7, 7, 7), true}, {99999, parcels(99998, 2, 1), true},
		{40, parcels(1, upTo(40)...), true}, {99, parcels(60, upTo(40)...), true}, {41, parcels(1, upTo(41)...), false}, {99999, parcels(99959, upTo(41)...), false},
		{5, parcels(4, 1), false}, {5, parcels(6, 1), false}, {5, parcels(4, 1, 2, 3), false}, {5, parcels(3, 1, 2), false}, {0, parcels(1, 1), false}, {100000, parcels(100000, 1), false},
		{0, parcels(0, 1), false}, {1, parcels(0, 1, 2), false}, {2, parcels(0, 1, 2, 3), false}, {0, parcels(-1, 1, 2), false}, {-1, parcels(-1, 1), false}, {-1, nil, false},
		{5, parcels(5, 0), false}, {5, parcels(5, 1000), false}, {5, parcels(4, 0, 1), false}, {5, parcels(4, 1, -1), false}, {5, parcels(5, math.MinInt), false}, {5, parcels(5, math.MaxInt), false},
		{5, slices.Concat(parcels(3, 1), parcels(5, 1)), false}, {5, slices.Concat(parcels(5, 1), parcels(5, 1)), false}, {5, slices.Concat(parcels(5, 1), parcels(4, 1)), false}, {5, slices.Concat(parcels(6, 1), parcels(5, 1)), false},
		{math.MaxInt, parcels(math.MaxInt, 1), false}, {math.MinInt, parcels(math.MinInt, 1), false}, {5, parcels(math.MinInt, 1), false}, {5, parcels(math.MaxInt, 1), false},
	} {
		for to := range 6 {
			s := api.Stock{Holds: papers(7)}
			s.Sent[to], s.Under[to] = c.sent, c.under
			checkStock(t, fmt.Sprint(c.sent, " sent, ", c.under, " under way to ", to), s, c.valid && (to != 2 || c.sent == 0), c.valid)
		}
	}
}

func TestP91CheckPage(t *testing.T) {
	for _, n := range []int{0, 1, 99999, 100000, -1, math.MinInt, math.MaxInt, api.PageSum, 100000 - api.PageSum} {
		valid := 0 <= n && n <= 99999
		p := page(example(), n)
		expect(t, fmt.Sprint("CheckPage, Count ", n), results(lend.CheckPage(2, p)), verdict(valid, api.ErrPage))
		for _, more := range []int{1, -1, 7, api.PageSum, -api.PageSum, math.MinInt} {
			q := p
			q.Sum += more
			expect(t, fmt.Sprint("CheckPage, Count ", n, ", Sum ", q.Sum), results(lend.CheckPage(2, q)), api.ErrPage)
		}
		q := p
		q.Count++
		expect(t, "CheckPage with another Count", results(lend.CheckPage(2, q)), api.ErrPage)
		q = p
		q.Stock.Taken[3]--
		expect(t, "CheckPage with another Stock", results(lend.CheckPage(2, q)), api.ErrPage)
	}
}

// checkDesk expects that a desk is valid, or not, for all that takes it.
func checkDesk(t *testing.T, name string, d api.Desk, valid bool) {
	t.Helper()
	expect(t, "Check of "+name, results(lend.Check(d)), verdict(valid, api.ErrDesk))
	e, desks := verdict(valid, api.ErrDesk), verdict(valid, api.ErrDesks)
	_, dry := lend.Dry(d)
	_, flood := lend.Flood(d, 1)
	_, holds := lend.Holds(d)
	_, firm := lend.Firm(d)
	expect(t, name, results(dry, flood, holds, firm), e, e, e, e)
	l := []api.Desk{d}
	_, where := lend.Where(l, 1)
	_, carried := lend.Carried(l, 1)
	_, quiet := lend.Quiet(l)
	expect(t, name+" alone", results(where, carried, quiet), desks, desks, desks)
	if valid {
		return
	}
	expect(t, name, results(lend.Dry(d)), api.Desk{}, api.ErrDesk)
	expect(t, name, results(lend.Flood(d, 0)), api.Desk{}, api.ErrDesk)
	expect(t, name, results(lend.Write(d)), api.Desk{}, api.ErrDesk)
	expect(t, name, results(lend.Send(d, 0, 9)), api.Desk{}, api.ErrDesk)
	expect(t, name, results(lend.Open(d, api.Bag{})), api.Desk{}, api.ErrDesk)
	expect(t, name, results(lend.Pack(d, 9)), api.Bag{}, api.ErrDesk)
	expect(t, name, results(lend.Under(d, 9)), none, api.ErrDesk)
	expect(t, name, results(lend.Holds(d)), none, api.ErrDesk)
	expect(t, name, results(lend.Firm(d)), api.Stock{}, api.ErrDesk)
	expect(t, name, results(lend.Where(l, 0)), none, api.ErrDesks)
	expect(t, name, results(lend.Carried(l, 0)), none, api.ErrDesks)
	expect(t, name, results(lend.Quiet(l)), false, api.ErrDesks)
}

func TestP91CheckDesk(t *testing.T) {
	s, other := example(), api.Stock{Holds: papers(1)}
	for _, c := range []struct {
		name          string
		wet           int
		first, second api.Page
		valid         bool
	}{
		{"rising pages", -1, page(s, 3), page(other, 4), true},
		{"falling pages", -1, page(s, 4), page(other, 3), true},
		{"pages with the same count", -1, page(s, 4), page(other, 4), false},
		{"twice the same page", -1, page(s, 4), page(s, 4), false},
		{"a first page that is right", -1, page(s, 4), wrong(other, 3), true},
		{"a second page that is right", -1, wrong(s, 4), page(other, 3), true},
		{"a page that is not right with the same count", -1, page(s, 4), wrong(other, 4), true},
		{"pages that are not right", -1, wrong(s, 4), wrong(other, 3), false},
		{"a wet first page", 0, page(s, 4), page(other, 3), true},
		{"a wet second page", 1, page(s, 3), page(other, 4), true},
		{"a wet first page that is lesser", 0, page(s, 3), page(other, 4), false},
		{"a wet second page that is lesser", 1, page(s, 4), page(other, 3), false},
		{"a wet first page with the same count", 0, page(s, 4), page(other, 4), false},
		{"a wet second page with the same count", 1, page(s, 4), page(other, 4), false},
		{"a wet first page that is not right", 0, wrong(s, 4), page(other, 3), false},
		{"a wet second page that is not right", 1, page(s, 3), wrong(other, 4), false},
		{"a wet first page, the other one not right", 0, page(s, 4), wrong(other, 3), false},
		{"a wet second page, the other one not right", 1, wrong(s, 3), page(other, 4), false},
		{"no page of this kind", 2, page(s, 3), page(other, 4), false},
		{"less than no wet page", -2, page(s, 3), page(other, 4), false},
		{"the wet page -2^63", math.MinInt, page(s, 3), page(other, 4), false},
		{"the wet page 2^63 - 1", math.MaxInt, page(s, 3), page(other, 4), false},
		{"the greatest counts", -1, page(s, 99998), page(other, 99999), true},
		{"a count too great", -1, page(s, 99999), page(other, 100000), true},
		{"a count too great, and wet", 1, page(s, 99999), page(other, 100000), false},
		{"counts too small", -1, page(s, -1), page(other, -2), false},
	} {
		checkDesk(t, c.name, desk(s, c.wet, c.first, c.second), c.valid)
	}
	checkDesk(t, "nothing", api.Desk{}, false)
	checkDesk(t, "nothing, dry", api.Desk{Wet: -1}, false)
	for _, me := range []int{-1, 6, math.MinInt, math.MaxInt, 0, 1, 3, 4, 5} {
		d := dryDesk(2, s)
		d.Me = me
		checkDesk(t, fmt.Sprint("the parish ", me), d, false)
		d = newDesk(t, 2, 7)
		d.Me = me
		checkDesk(t, fmt.Sprint("the parish, without more, ", me), d, 0 <= me && me <= 5)
	}
}

func TestP91CheckBag(t *testing.T) {
	d := newDesk(t, 2)
	for _, c := range []struct {
		name  string
		b     api.Bag
		valid bool
	}{
		{"nothing", api.Bag{From: 4, To: 2}, true},
		{"of the first parish", api.Bag{From: 0, To: 2, Parcels: parcels(1, 1)}, true},
		{"of the last parish", api.Bag{From: 5, To: 2, Parcels: parcels(1, 999, 1, 999)}, true},
		{"of itself", api.Bag{From: 2, To: 2}, false},
		{"of no parish", api.Bag{From: 6, To: 2}, false},
		{"of less than none", api.Bag{From: -1, To: 2}, false},
		{"of none at all", api.Bag{From: math.MinInt, To: 2}, false},
		{"of none in the world", api.Bag{From: math.MaxInt, To: 2}, false},
		{"forty parcels", api.Bag{From: 4, To: 2, Parcels: parcels(1, upTo(40)...)}, true},
		{"forty-one parcels", api.Bag{From: 4, To: 2, Parcels: parcels(1, upTo(41)...)}, false},
		{"the last parcels", api.Bag{From: 4, To: 2, Parcels: parcels(99960, upTo(40)...)}, true},
		{"the last parcel", api.Bag{From: 4, To: 2, Parcels: parcels(99999, 1)}, true},
		{"more than the last parcels", api.Bag{From: 4, To: 2, Parcels: parcels(99961, upTo(40)...)}, false},
		{"more than the last parcel", api.Bag{From: 4, To: 2, Parcels: parcels(100000, 1)}, false},
		{"the parcel 0", api.Bag{From: 4, To: 2, Parcels: parcels(0, 1)}, false},
		{"the parcels 0 and 1", api.Bag{From: 4, To: 2, Parcels: parcels(0, 1, 2)}, false},
		{"parcels less than 0", api.Bag{From: 4, To: 2, Parcels: parcels(math.MinInt, 1, 2)}, false},
		{"parcels that end", api.Bag{From: 4, To: 2, Parcels: parcels(math.MaxInt, 1, 2)}, false},
		{"a gap", api.Bag{From: 4, To: 2, Parcels: slices.Concat(parcels(1, 1), parcels(3, 1))}, false},
		{"a parcel twice", api.Bag{From: 4, To: 2, Parcels: slices.Concat(parcels(1, 1), parcels(1, 1))}, false},
		{"falling parcels", api.Bag{From: 4, To: 2, Parcels: slices.Concat(parcels(2, 1), parcels(1, 1))}, false},
		{"the paper 0", api.Bag{From: 4, To: 2, Parcels: parcels(1, 1, 0)}, false},
		{"the paper 1000", api.Bag{From: 4, To: 2, Parcels: parcels(1, 1000, 1)}, false},
		{"the paper -1", api.Bag{From: 4, To: 2, Parcels: parcels(7, -1)}, false},
		{"as many taken as may be", api.Bag{From: 4, To: 2, Taken: 99999}, true},
		{"too many taken", api.Bag{From: 4, To: 2, Taken: 100000}, false},
		{"less than none taken", api.Bag{From: 4, To: 2, Taken: -1}, false},
		{"less than none at all taken", api.Bag{From: 4, To: 2, Taken: math.MinInt}, false},
	} {
		expect(t, "CheckBag of "+c.name, results(lend.CheckBag(c.b)), verdict(c.valid, api.ErrBag))
		if !c.valid {
			expect(t, "Open of "+c.name, results(lend.Open(d, c.b)), api.Desk{}, api.ErrBag)
		} else {
			_, e := lend.Open(d, c.b)
			expect(t, "Open of "+c.name, results(e == api.ErrBag), false)
		}
	}
	for to, valid := range map[int]bool{0: true, 1: true, 3: true, 5: true, -1: false, 4: false, 6: false, math.MinInt: false, math.MaxInt: false} {
		b := api.Bag{From: 4, To: to, Parcels: parcels(1, 7)}
		expect(t, fmt.Sprint("CheckBag to ", to), results(lend.CheckBag(b)), verdict(valid, api.ErrBag))
		expect(t, fmt.Sprint("Open of one to ", to), results(lend.Open(d, b)), api.Desk{}, api.ErrBag)
	}
	expect(t, "Open of one that is wrong, and too much", results(lend.Open(newDesk(t, 2, upTo(40)...), api.Bag{From: 4, To: 2, Parcels: parcels(1, 1, 0)})), api.Desk{}, api.ErrBag)
}

func TestP91CheckDesks(t *testing.T) {
	var all []api.Desk
	for me := range api.MaxParishes {
		all = append(all, newDesk(t, me, 10*me+1))
	}
	bad := api.Desk{Me: 3, Wet: -1}
	for _, c := range []struct {
		name  string
		l     []api.Desk
		valid bool
	}{
		{"none", nil, true}, {"all", all, true}, {"some", []api.Desk{all[1], all[4]}, true},
		{"one twice", []api.Desk{all[1], all[1]}, false}, {"falling", []api.Desk{all[4], all[1]}, false}, {"all and one more", append(slices.Clone(all), all[5]), false},
		{"a wrong one", []api.Desk{all[1], bad}, false}, {"a wrong one ahead", []api.Desk{bad, all[4]}, false},
	} {
		for paper, e := range map[int]api.Errno{1: api.OK, 999: api.OK, 0: api.ErrArg, 1000: api.ErrArg, -1: api.ErrArg, math.MinInt: api.ErrArg, math.MaxInt: api.ErrArg} {
			if !c.valid {
				e = api.ErrDesks
			}
			where, f := lend.Where(c.l, paper)
			ways, g := lend.Carried(c.l, paper)
			expect(t, fmt.Sprint("Where, Carried ", paper, " of ", c.name), results(f, g), e, e)
			if e != api.OK {
				expect(t, fmt.Sprint("Where, Carried ", paper, " of ", c.name), results(where, ways), none, none)
			}
		}
		expect(t, "Quiet of "+c.name, results(lend.Quiet(c.l)), c.valid, verdict(c.valid, api.ErrDesks))
	}
}

// wipe changes all numbers of a stock's lists.
func wipe(s api.Stock) {
	for i := range s.Holds {
		s.Holds[i] = -1
	}
	for _, l := range s.Under {
		for i := range l {
			l[i] = api.Parcel{No: -1, Paper: -1}
		}
	}
}

// stocksOf returns the stocks of a desk, with their lists.
func stocksOf(d api.Desk) []api.Stock {
	return []api.Stock{d.Now, d.Pages[0].Stock, d.Pages[1].Stock}
}

// TestP91Memory changes what is returned: no argument changes with it, and none of the other lists.
func TestP91Memory(t *testing.T) {
	d := desk(example(), 1, page(full(), 3), page(example(), 4))
	dry := desk(example(), -1, page(full(), 3), page(example(), 4))
	held := papers(3, 5)
	bag := api.Bag{From: 1, To: 2, Parcels: parcels(5, 8, 4), Taken: 1}
	l := []api.Desk{d}
	all := func() string { return fmt.Sprint(d, dry, held, bag, l) }
	want := all()
	kept := func(call string, e api.Errno) {
		t.Helper()
		expect(t, call, results(e), api.OK)
		if got := all(); got != want {
			t.Fatalf("%s changes %s to %s", call, want, got)
		}
	}
	keptDesk := func(call string, made api.Desk, e api.Errno) {
		t.Helper()
		for i, s := range stocksOf(made) {
			others := fmt.Sprint(slices.Delete(stocksOf(made), i, i+1))
			wipe(s)
			expect(t, call+", the others", results(fmt.Sprint(slices.Delete(stocksOf(made), i, i+1))), others)
		}
		kept(call, e)
	}
	made, e := lend.New(2, held)
	keptDesk("New", made, e)
	for _, d := range []api.Desk{d, dry} {
		for name, call := range map[string]func() (api.Desk, api.Errno){
			"Send":            func() (api.Desk, api.Errno) { return lend.Send(d, 3, 0) },
			"Send of the end": func() (api.Desk, api.Errno) { return lend.Send(d, 999, 1) },
			"Write":           func() (api.Desk, api.Errno) { return lend.Write(d) },
			"Dry":             func() (api.Desk, api.Errno) { return lend.Dry(d) },
			"Flood":           func() (api.Desk, api.Errno) { return lend.Flood(d, 0) },
			"Flood with 1":    func() (api.Desk, api.Errno) { return lend.Flood(d, 1) },
			"Open":            func() (api.Desk, api.Errno) { return lend.Open(d, bag) },
			"Open of one":     func() (api.Desk, api.Errno) { return lend.Open(d, api.Bag{From: 0, To: 2, Taken: 4}) },
		} {
			made, e := call()
			keptDesk(name, made, e)
		}
		b, e := lend.Pack(d, 0)
		wipe(api.Stock{Under: [6][]api.Parcel{b.Parcels}})
		kept("Pack", e)
		firm, e := lend.Firm(d)
		wipe(firm)
		kept("Firm", e)
		for _, call := range []func() ([]int, api.Errno){
			func() ([]int, api.Errno) { return lend.Holds(d) }, func() ([]int, api.Errno) { return lend.Under(d, 0) }, func() ([]int, api.Errno) { return lend.Where(l, 3) },
		} {
			got, e := call()
			wipe(api.Stock{Holds: got})
			kept("a list", e)
		}
	}
}

// TestP91Empty hands in empty lists that are not nil.
func TestP91Empty(t *testing.T) {
	s := api.Stock{Holds: []int{}}
	for to := range s.Under {
		s.Under[to] = []api.Parcel{}
	}
	expect(t, "CheckStock", results(lend.CheckStock(2, s)), api.OK)
	expect(t, "Sum", results(lend.Sum(s, 0)), 493827, api.OK)
	expect(t, "New", results(lend.New(2, []int{})), newDesk(t, 2), api.OK)
	expect(t, "CheckBag", results(lend.CheckBag(api.Bag{From: 1, Parcels: []api.Parcel{}})), api.OK)
	expect(t, "Quiet", results(lend.Quiet([]api.Desk{dryDesk(2, s)})), true, api.OK)
	expect(t, "Write", results(lend.Write(dryDesk(2, s))), desk(s, 1, page(s, 1), page(s, 2)), api.OK)
}

// some returns a number, which may be any.
func some(r *rand.Rand) int {
	return []int{0, 1, 2, 3, 5, 6, 40, 41, 999, 1000, 99999, 100000, api.PageSum, -1, -2, math.MinInt, math.MaxInt, math.MinInt + 1, math.MaxInt - 1}[r.IntN(19)]
}

// wildStock returns any stock.
func wildStock(r *rand.Rand) api.Stock {
	s := clonedStock(someStock(r, r.IntN(6)))
	for range r.IntN(4) {
		to := r.IntN(6)
		switch r.IntN(5) {
		case 0:
			s.Holds = append(s.Holds, some(r))
		case 1:
			s.Sent[to] = some(r)
		case 2:
			s.Taken[to] = some(r)
		default:
			s.Under[to] = append(s.Under[to], api.Parcel{No: some(r), Paper: some(r)})
			s.Sent[to] += r.IntN(2)
		}
	}
	return s
}

// wildDesk returns any desk.
func wildDesk(r *rand.Rand) api.Desk {
	d := clonedDesk(someDesk(r, r.IntN(6)))
	for range r.IntN(3) {
		spoilDesk(r, &d)
	}
	switch r.IntN(8) {
	case 0:
		d.Me = some(r)
	case 1:
		d.Wet = some(r)
	case 2:
		d.Now = wildStock(r)
	case 3:
		d.Pages[r.IntN(2)] = api.Page{Count: some(r), Stock: wildStock(r), Sum: some(r)}
	}
	return d
}

// wildBag returns any bag.
func wildBag(r *rand.Rand, d api.Desk) api.Bag {
	b := api.Bag{From: r.IntN(8) - 1, To: d.Me, Taken: r.IntN(9)}
	if in(d.Me, 0, 5) && r.IntN(2) == 0 {
		b = someBag(r, d)
	}
	for range r.IntN(2) {
		b.Parcels = append(b.Parcels, api.Parcel{No: some(r), Paper: some(r)})
	}
	if r.IntN(9) == 0 {
		b.Taken = some(r)
	}
	return b
}

// TestP91Wild calls all functions with any arguments: none panics, and with an error all else is a zero value.
func TestP91Wild(t *testing.T) {
	right := map[string]int{}
	eachSeed(t, 915, 4000, func(r *rand.Rand) {
		check := func(name string, e api.Errno, zero bool) {
			if e == api.OK {
				right[name]++
			} else if !zero {
				t.Errorf("%s: %v, and a result", name, e)
			}
		}
		isNoDesk := func(d api.Desk) bool { return fmt.Sprint(d) == fmt.Sprint(api.Desk{}) }
		d, s := wildDesk(r), wildStock(r)
		b := wildBag(r, d)
		lend.CheckStock(some(r), s)
		lend.CheckPage(some(r), d.Pages[0])
		lend.CheckBag(b)
		sum, e := lend.Sum(s, some(r))
		check("Sum", e, sum == 0)
		made, e := lend.New(r.IntN(8)-1, s.Holds)
		check("New", e, isNoDesk(made))
		made, e = lend.Send(d, some(r), r.IntN(8)-1)
		check("Send", e, isNoDesk(made))
		made, e = lend.Write(d)
		check("Write", e, isNoDesk(made))
		made, e = lend.Dry(d)
		check("Dry", e, isNoDesk(made))
		made, e = lend.Flood(d, some(r))
		check("Flood", e, isNoDesk(made))
		made, e = lend.Open(d, b)
		check("Open", e, isNoDesk(made))
		bag, e := lend.Pack(d, r.IntN(8)-1)
		check("Pack", e, bag.From == 0 && bag.To == 0 && bag.Taken == 0 && len(bag.Parcels) == 0)
		l, e := lend.Under(d, r.IntN(8)-1)
		check("Under", e, len(l) == 0)
		desks := []api.Desk{d, wildDesk(r)}[:r.IntN(3)]
		l, e = lend.Where(desks, some(r))
		check("Where", e, len(l) == 0)
		ways, e := lend.Carried(desks, some(r))
		check("Carried", e, len(ways) == 0)
		quiet, e := lend.Quiet(desks)
		check("Quiet", e, !quiet)
		text, e := lend.Print(s)
		check("Print", e, text == "")
		back, line, e := lend.Parse(r.IntN(8)-1, plainText(s))
		check("Parse", e, fmt.Sprint(back) == fmt.Sprint(api.Stock{}) && (line == 0) == (e != api.ErrText))
	})
	for _, name := range strings.Fields("Sum New Send Write Dry Flood Open Pack Under Where Carried Quiet Print Parse") {
		if right[name] < 20 {
			t.Errorf("%s is right just %d times", name, right[name])
		}
	}
}
