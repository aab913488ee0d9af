package lend_test

import (
	"fmt"
	"math/rand/v2"
	"slices"
	"strings"
	"testing"

	"parvise/api"
	"parvise/lend"
)

// Here the chapter's terms are read once more, in the plainest way, without regard to time.

func in(n, lo, hi int) bool { return lo <= n && n <= hi }

func plainStock(me int, s api.Stock) bool {
	if !in(me, 0, 5) || len(s.Holds) > 40 {
		return false
	}
	for i, paper := range s.Holds {
		if !in(paper, 1, 999) || i > 0 && s.Holds[i-1] >= paper {
			return false
		}
	}
	for to := range 6 {
		l := s.Under[to]
		if !in(s.Sent[to], 0, 99999) || !in(s.Taken[to], 0, 99999) || len(l) > 40 || len(l) > s.Sent[to] {
			return false
		}
		if to == me && (len(l) > 0 || s.Sent[to] > 0 || s.Taken[to] > 0) {
			return false
		}
		no := s.Sent[to]
		for _, p := range slices.Backward(l) {
			if p.No != no || !in(p.Paper, 1, 999) {
				return false
			}
			no--
		}
	}
	return true
}

func plainAny(s api.Stock) bool {
	is := false
	for me := range 6 {
		is = is || plainStock(me, s)
	}
	return is
}

func plainText(s api.Stock) string {
	words := func(first string, l []int) string {
		return strings.TrimSpace(first+" "+strings.Trim(fmt.Sprint(l), "[]")) + "\n"
	}
	text := words("holds", s.Holds)
	for to, l := range s.Under {
		for _, p := range l {
			text += fmt.Sprintf("under %d %d %d\n", to, p.No, p.Paper)
		}
	}
	return text + words("sent", s.Sent[:]) + words("taken", s.Taken[:])
}

func plainSum(s api.Stock, n int) int {
	sum := (n%1000003 + 1000003) % 1000003
	text := plainText(s)
	for i := range len(text) {
		sum = (257*sum + int(text[i]) + 1) % 1000003
	}
	return sum
}

func plainRight(me int, p api.Page) bool {
	return in(p.Count, 0, 99999) && plainStock(me, p.Stock) && p.Sum == plainSum(p.Stock, p.Count)
}

func plainDesk(d api.Desk) bool {
	if !in(d.Me, 0, 5) || !plainStock(d.Me, d.Now) || !in(d.Wet, -1, 1) {
		return false
	}
	var right []api.Page
	for _, p := range d.Pages {
		if plainRight(d.Me, p) {
			right = append(right, p)
		}
	}
	switch {
	case len(right) == 0:
		return false
	case d.Wet == -1:
		return len(right) == 1 || right[0].Count != right[1].Count
	case len(right) < 2:
		return false
	case d.Wet == 0:
		return right[0].Count > right[1].Count
	}
	return right[1].Count > right[0].Count
}

func plainBag(b api.Bag) bool {
	if !in(b.From, 0, 5) || !in(b.To, 0, 5) || b.From == b.To || len(b.Parcels) > 40 || !in(b.Taken, 0, 99999) {
		return false
	}
	for i, p := range b.Parcels {
		if !in(p.No, 1, 99999) || !in(p.Paper, 1, 999) || i > 0 && b.Parcels[i-1].No+1 != p.No {
			return false
		}
	}
	return true
}

// plainFirm returns the index of the firm page.
func plainFirm(d api.Desk) int {
	firm, count := -1, -1
	for i, p := range d.Pages {
		if plainRight(d.Me, p) && i != d.Wet && p.Count > count {
			firm, count = i, p.Count
		}
	}
	return firm
}

func plainTown(d api.Desk, to int) bool { return in(to, 0, 5) && to != d.Me }

func plainSend(d api.Desk, paper, to int) (api.Desk, api.Errno) {
	d = clonedDesk(d)
	at := slices.Index(d.Now.Holds, paper)
	switch {
	case !plainDesk(d):
		return api.Desk{}, api.ErrDesk
	case !in(paper, 1, 999):
		return api.Desk{}, api.ErrArg
	case !plainTown(d, to):
		return api.Desk{}, api.ErrTown
	case at < 0:
		return api.Desk{}, api.ErrAway
	case len(d.Now.Under[to]) == 40 || d.Now.Sent[to] == 99999:
		return api.Desk{}, api.ErrLong
	}
	d.Now.Holds = append(d.Now.Holds[:at], d.Now.Holds[at+1:]...)
	d.Now.Sent[to]++
	d.Now.Under[to] = append(d.Now.Under[to], api.Parcel{No: d.Now.Sent[to], Paper: paper})
	return d, api.OK
}

func plainWrite(d api.Desk) (api.Desk, api.Errno) {
	if !plainDesk(d) {
		return api.Desk{}, api.ErrDesk
	}
	d = clonedDesk(d)
	if d.Wet >= 0 {
		d.Pages[d.Wet] = page(d.Now, d.Pages[d.Wet].Count)
		return d, api.OK
	}
	at := 0
	switch {
	case !plainRight(d.Me, d.Pages[0]):
	case !plainRight(d.Me, d.Pages[1]):
		at = 1
	case d.Pages[1].Count < d.Pages[0].Count:
		at = 1
	}
	count := d.Pages[plainFirm(d)].Count + 1
	if count > 99999 {
		return api.Desk{}, api.ErrLong
	}
	d.Pages[at] = page(d.Now, count)
	d.Wet = at
	return d, api.OK
}

func plainDry(d api.Desk) (api.Desk, api.Errno) {
	if !plainDesk(d) {
		return api.Desk{}, api.ErrDesk
	}
	d.Wet = -1
	return d, api.OK
}

func plainFlood(d api.Desk, smear int) (api.Desk, api.Errno) {
	if !plainDesk(d) {
		return api.Desk{}, api.ErrDesk
	}
	if d.Wet >= 0 && smear&1 == 1 {
		d.Pages[d.Wet].Sum++
		if d.Pages[d.Wet].Sum == 1000003 {
			d.Pages[d.Wet].Sum = 0
		}
	}
	d.Wet = -1
	d.Now = d.Pages[plainFirm(d)].Stock
	return d, api.OK
}

func plainPack(d api.Desk, to int) (api.Bag, api.Errno) {
	if !plainDesk(d) {
		return api.Bag{}, api.ErrDesk
	}
	if !plainTown(d, to) {
		return api.Bag{}, api.ErrTown
	}
	s := d.Pages[plainFirm(d)].Stock
	return api.Bag{From: d.Me, To: to, Parcels: s.Under[to], Taken: s.Taken[to]}, api.OK
}

func plainOpen(d api.Desk, b api.Bag) (api.Desk, api.Errno) {
	if !plainDesk(d) {
		return api.Desk{}, api.ErrDesk
	}
	if !plainBag(b) || b.To != d.Me {
		return api.Desk{}, api.ErrBag
	}
	d = clonedDesk(d)
	var left []api.Parcel
	for _, p := range d.Now.Under[b.From] {
		if p.No > b.Taken {
			left = append(left, p)
		}
	}
	d.Now.Under[b.From] = left
	for _, p := range b.Parcels {
		if p.No != d.Now.Taken[b.From]+1 {
			continue
		}
		if slices.Contains(d.Now.Holds, p.Paper) {
			return api.Desk{}, api.ErrHere
		}
		if len(d.Now.Holds) == 40 {
			return api.Desk{}, api.ErrLong
		}
		d.Now.Taken[b.From]++
		d.Now.Holds = append(d.Now.Holds, p.Paper)
		slices.Sort(d.Now.Holds)
	}
	return d, api.OK
}

func plainDesks(l []api.Desk) bool {
	for i, d := range l {
		if !plainDesk(d) || i > 0 && l[i-1].Me >= d.Me {
			return false
		}
	}
	return len(l) <= 6
}

func plainWhere(l []api.Desk, paper int) []int {
	var at []int
	for _, d := range l {
		if slices.Contains(d.Now.Holds, paper) {
			at = append(at, d.Me)
		}
	}
	return at
}

func plainCarried(l []api.Desk, paper int) [][2]int {
	var ways [][2]int
	for _, d := range l {
		for to, under := range d.Now.Under {
			for _, p := range under {
				taken := slices.ContainsFunc(l, func(other api.Desk) bool { return other.Me == to && other.Now.Taken[d.Me] >= p.No })
				if p.Paper == paper && !taken {
					ways = append(ways, [2]int{d.Me, to})
				}
			}
		}
	}
	return ways
}

func plainQuiet(l []api.Desk) bool {
	many := 0
	for _, d := range l {
		for _, under := range d.Now.Under {
			many += len(under)
		}
	}
	return many == 0
}

// spoil changes a stock in one way or another.
func spoil(r *rand.Rand, s *api.Stock) {
	to := r.IntN(6)
	change := func(n *int) { *n += []int{-1, 1, 1000, -100000, 99999}[r.IntN(5)] }
	switch r.IntN(6) {
	case 0:
		if len(s.Holds) > 0 {
			change(&s.Holds[r.IntN(len(s.Holds))])
		}
	case 1:
		s.Holds = append(s.Holds, 1+r.IntN(few))
	case 2:
		change(&s.Sent[to])
	case 3:
		change(&s.Taken[to])
	case 4:
		s.Under[to] = append(s.Under[to], api.Parcel{No: s.Sent[to] + r.IntN(2), Paper: 1 + r.IntN(few)})
	case 5:
		if l := s.Under[to]; len(l) > 0 {
			p := &l[r.IntN(len(l))]
			change([]*int{&p.No, &p.Paper}[r.IntN(2)])
		}
	}
}

// spoilDesk changes a desk in one way or another; it may be valid yet.
func spoilDesk(r *rand.Rand, d *api.Desk) {
	p := &d.Pages[r.IntN(2)]
	switch r.IntN(7) {
	case 0:
		d.Me += r.IntN(3) - 1
	case 1:
		d.Wet += r.IntN(3) - 1
	case 2:
		spoil(r, &d.Now)
	case 3:
		spoil(r, &p.Stock)
		p.Sum = plainSum(p.Stock, p.Count)
	case 4:
		p.Sum += []int{1, -1, api.PageSum}[r.IntN(3)]
	case 5:
		p.Count += r.IntN(5) - 2
		p.Sum = plainSum(p.Stock, p.Count)
	case 6:
		p.Count += r.IntN(5) - 2
	}
}

// TestP91PlainStocks holds what is said of stocks and pages, right and wrong, against the plain reading.
func TestP91PlainStocks(t *testing.T) {
	valid, notValid, any := 0, 0, 0
	eachSeed(t, 911, 6000, func(r *rand.Rand) {
		me := r.IntN(6)
		s := clonedStock(someStock(r, me))
		for range r.IntN(3) {
			spoil(r, &s)
		}
		if r.IntN(3) == 0 {
			me = r.IntN(8) - 1
		}
		is := plainStock(me, s)
		expect(t, "CheckStock", results(lend.CheckStock(me, s)), verdict(is, api.ErrStock))
		n := r.IntN(100000)
		expect(t, "CheckPage", results(lend.CheckPage(me, page(s, n))), verdict(is, api.ErrPage))
		if plainAny(s) {
			expect(t, "Sum", results(lend.Sum(s, n)), plainSum(s, n), api.OK)
			expect(t, "Print", results(lend.Print(s)), plainText(s), api.OK)
		} else {
			expect(t, "Sum", results(lend.Sum(s, n)), 0, api.ErrStock)
			expect(t, "Print", results(lend.Print(s)), "", api.ErrStock)
		}
		switch {
		case is:
			valid++
		case plainAny(s):
			any++
		default:
			notValid++
		}
	})
	if min(valid, notValid, any) < 500 {
		t.Errorf("just %d are valid, %d of another parish, %d of none", valid, any, notValid)
	}
}

// TestP91PlainDesks holds what is done with desks, right and wrong, against the plain reading.
func TestP91PlainDesks(t *testing.T) {
	seen := map[api.Errno]int{}
	eachSeed(t, 912, 8000, func(r *rand.Rand) {
		d := clonedDesk(someDesk(r, r.IntN(6)))
		b := someBag(r, d)
		for range r.IntN(3) {
			spoilDesk(r, &d)
		}
		if r.IntN(9) == 0 {
			b.To = r.IntN(7)
		}
		paper, to, smear := r.IntN(few+1), (d.Me+6+r.IntN(7))%7, r.IntN(9)-4
		tell := func(call string, got result, want api.Desk, e api.Errno) {
			t.Helper()
			expect(t, call, got, want, e)
			seen[e]++
		}
		expect(t, "Check", results(lend.Check(d)), verdict(plainDesk(d), api.ErrDesk))
		want, e := plainSend(d, paper, to)
		tell(fmt.Sprint("Send ", paper, to), results(lend.Send(d, paper, to)), want, e)
		want, e = plainWrite(d)
		tell("Write", results(lend.Write(d)), want, e)
		want, e = plainDry(d)
		tell("Dry", results(lend.Dry(d)), want, e)
		want, e = plainFlood(d, smear)
		tell(fmt.Sprint("Flood ", smear), results(lend.Flood(d, smear)), want, e)
		want, e = plainOpen(d, b)
		tell(fmt.Sprintf("Open %+v", b), results(lend.Open(d, b)), want, e)
		bag, e := plainPack(d, to)
		expect(t, fmt.Sprint("Pack ", to), results(lend.Pack(d, to)), bag, e)
		if plainDesk(d) {
			expect(t, "Holds", results(lend.Holds(d)), d.Now.Holds, api.OK)
			expect(t, "Firm", results(lend.Firm(d)), d.Pages[plainFirm(d)].Stock, api.OK)
		} else {
			expect(t, "Holds", results(lend.Holds(d)), none, api.ErrDesk)
			expect(t, "Firm", results(lend.Firm(d)), api.Stock{}, api.ErrDesk)
		}
	})
	for _, e := range []api.Errno{api.OK, api.ErrArg, api.ErrLong, api.ErrDesk, api.ErrBag, api.ErrTown, api.ErrAway, api.ErrHere} {
		if seen[e] < 50 {
			t.Errorf("the error %v: just %d times", e, seen[e])
		}
	}
}

// TestP91PlainLists holds what is told of several desks against the plain reading.
func TestP91PlainLists(t *testing.T) {
	carried, at, not := 0, 0, 0
	eachSeed(t, 913, 2000, func(r *rand.Rand) {
		l := someDesks(r)
		if len(l) > 0 && r.IntN(4) == 0 {
			i := r.IntN(len(l))
			switch r.IntN(3) {
			case 0:
				l[i] = clonedDesk(l[i])
				spoilDesk(r, &l[i])
			case 1:
				l = slices.Insert(l, i, l[i])
			case 2:
				slices.Reverse(l)
			}
		}
		if !plainDesks(l) {
			expect(t, "Where", results(lend.Where(l, r.IntN(2))), none, api.ErrDesks)
			expect(t, "Carried", results(lend.Carried(l, r.IntN(2))), none, api.ErrDesks)
			expect(t, "Quiet", results(lend.Quiet(l)), false, api.ErrDesks)
			not++
			return
		}
		expect(t, "Quiet", results(lend.Quiet(l)), plainQuiet(l), api.OK)
		for paper := 1; paper <= few; paper++ {
			where, ways := plainWhere(l, paper), plainCarried(l, paper)
			expect(t, fmt.Sprint("Where ", paper), results(lend.Where(l, paper)), where, api.OK)
			expect(t, fmt.Sprint("Carried ", paper), results(lend.Carried(l, paper)), ways, api.OK)
			at += len(where)
			carried += len(ways)
		}
	})
	if min(carried, at, not) < 200 {
		t.Errorf("just %d carried, %d here, %d lists are none of desks", carried, at, not)
	}
}

// TestP91PlainBags holds CheckBag against the plain reading.
func TestP91PlainBags(t *testing.T) {
	valid, notValid := 0, 0
	eachSeed(t, 914, 4000, func(r *rand.Rand) {
		b := someBag(r, someDesk(r, r.IntN(6)))
		b.Parcels = slices.Clone(b.Parcels)
		switch r.IntN(6) {
		case 0:
			b.From = r.IntN(8) - 1
		case 1:
			b.To = r.IntN(8) - 1
		case 2:
			b.Taken = []int{-1, 0, 99999, 100000}[r.IntN(4)]
		case 3:
			if len(b.Parcels) > 0 {
				b.Parcels[r.IntN(len(b.Parcels))].No += r.IntN(3) - 1
			}
		case 4:
			if len(b.Parcels) > 0 {
				b.Parcels[r.IntN(len(b.Parcels))].Paper = []int{0, 1, 999, 1000}[r.IntN(4)]
			}
		case 5:
			b.Parcels = parcels([]int{0, 1, 99999, 99998}[r.IntN(4)], somePapers(r, 3, 3)...)
		}
		expect(t, fmt.Sprintf("CheckBag %+v", b), results(lend.CheckBag(b)), verdict(plainBag(b), api.ErrBag))
		if plainBag(b) {
			valid++
		} else {
			notValid++
		}
	})
	if min(valid, notValid) < 500 {
		t.Errorf("just %d are valid, %d are not", valid, notValid)
	}
}
