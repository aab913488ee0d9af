package lend_test

import (
	"fmt"
	"maps"
	"math/rand/v2"
	"slices"
	"testing"

	"parvise/api"
	"parvise/lend"
)

// TestP92Valid changes desks: they are valid then, and their firm pages are as late as before.
func TestP92Valid(t *testing.T) {
	later, kept := 0, 0
	eachSeed(t, 921, 3000, func(r *rand.Rand) {
		d := someDesk(r, r.IntN(6))
		firm := d.Pages[plainFirm(d)]
		check := func(call string, got api.Desk, e api.Errno, mayDry bool) {
			t.Helper()
			if e != api.OK {
				return
			}
			expect(t, call, results(lend.Check(got), got.Me), api.OK, d.Me)
			now := got.Pages[plainFirm(got)]
			expect(t, call+", Firm", results(lend.Firm(got)), now.Stock, api.OK)
			if fmt.Sprint(now) == fmt.Sprint(firm) {
				kept++
				return
			}
			later++
			if !mayDry || now.Count <= firm.Count || d.Wet < 0 {
				t.Errorf("%s: the firm page %v becomes %v", call, firm, now)
			}
		}
		got, e := lend.Send(d, 1+r.IntN(few), r.IntN(6))
		check("Send", got, e, false)
		got, e = lend.Write(d)
		check("Write", got, e, false)
		got, e = lend.Open(d, someBag(r, d))
		check("Open", got, e, false)
		got, e = lend.Dry(d)
		check("Dry", got, e, true)
		got, e = lend.Flood(d, 0)
		check("Flood with 0", got, e, true)
		got, e = lend.Flood(d, 1)
		check("Flood with 1", got, e, false)
	})
	if min(later, kept) < 1000 {
		t.Errorf("the firm page was another one just %d times, the same %d times", later, kept)
	}
}

// TestP95Again opens bags twice.
func TestP95Again(t *testing.T) {
	changed := 0
	eachSeed(t, 951, 4000, func(r *rand.Rand) {
		d := someDesk(r, r.IntN(6))
		b := someBag(r, d)
		got, e := lend.Open(d, b)
		if e != api.OK {
			return
		}
		expect(t, fmt.Sprintf("Open of %+v, again", b), results(lend.Open(got, b)), got, api.OK)
		if fmt.Sprint(got) != fmt.Sprint(d) {
			changed++
		}
	})
	if changed < 1000 {
		t.Errorf("just %d bags changed something", changed)
	}
}

// TestP96InOrder sends papers, and opens bags that are lost, doubled and late: they are taken one after the other.
func TestP96InOrder(t *testing.T) {
	early := 0
	eachSeed(t, 961, 100, func(r *rand.Rand) {
		order := r.Perm(30)
		a, b := newDesk(t, 4, upTo(30)...), newDesk(t, 1)
		var bags []api.Bag
		var taken []int
		for len(taken) < len(order) {
			if sent := a.Now.Sent[1]; sent < len(order) && r.IntN(3) == 0 {
				var e api.Errno
				a, e = lend.Send(a, 1+order[sent], 1)
				expect(t, "Send", results(e), api.OK)
			}
			a = dried(t, a)
			bag, e := lend.Pack(a, 1)
			expect(t, "Pack", results(e), api.OK)
			bags = append(bags, bag)
			if r.IntN(9) == 0 {
				back, _ := lend.Pack(dried(t, b), 4)
				a, e = lend.Open(a, back)
				expect(t, "Open of what came back", results(e), api.OK)
			}
			before, bag := b.Now, bags[max(r.IntN(len(bags)), r.IntN(len(bags)))]
			b, e = lend.Open(b, bag)
			expect(t, "Open", results(e), api.OK)
			if len(bag.Parcels) > 0 && bag.Parcels[0].No <= before.Taken[4] {
				early++
			}
			for _, p := range bag.Parcels {
				if slices.Contains(b.Now.Holds, p.Paper) && !slices.Contains(before.Holds, p.Paper) {
					taken = append(taken, p.Paper-1)
				}
			}
		}
		expect(t, "what was taken", results(taken), order)
	})
	if early < 1000 {
		t.Errorf("just %d parcels came again", early)
	}
}

// tale is which papers a parish has sent to each one, and has taken from each one, in order.
type tale struct{ sent, taken [api.MaxParishes][]int }

// of returns a tale of which the last things are not known any more.
func (w tale) of(s api.Stock) tale {
	for i := range api.MaxParishes {
		w.sent[i], w.taken[i] = slices.Clip(w.sent[i][:s.Sent[i]]), slices.Clip(w.taken[i][:s.Taken[i]])
	}
	return w
}

// town is parishes that send each other papers, by carriers who get lost, come twice, or late.
type town struct {
	desks  []api.Desk
	tales  []tale
	bags   []api.Bag // all that were ever packed
	papers []int

	lost, again, written, carried, back, full int // how often something was so
}

// newTown returns a town of some parishes; each paper is at one of them.
func newTown(t *testing.T, parishes, papers int) *town {
	t.Helper()
	w := town{tales: make([]tale, parishes), papers: upTo(papers)}
	at := make([][]int, len(w.tales))
	for _, paper := range w.papers {
		me := paper % len(at)
		at[me] = append(at[me], paper)
	}
	for me, l := range at {
		w.desks = append(w.desks, newDesk(t, me, l...))
	}
	return &w
}

// becomes puts a desk in the place of the one of its parish: it has to be valid, with a firm page that is as late as before.
func (w *town) becomes(t *testing.T, call string, d api.Desk, mayDry bool) {
	t.Helper()
	old := w.desks[d.Me]
	expect(t, call+", Check", results(lend.Check(d)), api.OK)
	before, after := old.Pages[plainFirm(old)], d.Pages[plainFirm(d)]
	if fmt.Sprint(before) != fmt.Sprint(after) && (!mayDry || before.Count >= after.Count) {
		t.Errorf("%s: the firm page %v becomes %v", call, before, after)
	}
	w.desks[d.Me] = d
}

// step lets something happen.
func (w *town) step(t *testing.T, r *rand.Rand) {
	t.Helper()
	me := r.IntN(len(w.desks))
	d := w.desks[me]
	to := (me + 1 + r.IntN(len(w.desks)-1)) % len(w.desks)
	switch r.IntN(10) {
	case 0, 1:
		w.send(t, r, d, to)
	case 2:
		got, e := lend.Write(d)
		expect(t, "Write", results(e), api.OK)
		w.becomes(t, "Write", got, false)
		w.written++
	case 3:
		got, e := lend.Dry(d)
		expect(t, "Dry", results(e), api.OK)
		w.becomes(t, "Dry", got, true)
	case 4:
		if r.IntN(3) == 0 {
			w.flood(t, d, r.IntN(4))
		}
	case 5, 6:
		b, e := lend.Pack(d, to)
		expect(t, "Pack", results(e), api.OK)
		w.bags = append(w.bags, b)
	default:
		if len(w.bags) > 0 {
			// Many of them are among the last ones.
			w.open(t, w.bags[max(r.IntN(len(w.bags)), r.IntN(len(w.bags)))])
		}
	}
}

// send sends a paper of a desk to a parish.
func (w *town) send(t *testing.T, r *rand.Rand, d api.Desk, to int) {
	t.Helper()
	if len(d.Now.Holds) == 0 || len(d.Now.Under[to]) == api.MaxParcels {
		return
	}
	paper := d.Now.Holds[r.IntN(len(d.Now.Holds))]
	got, e := lend.Send(d, paper, to)
	expect(t, "Send", results(e), api.OK)
	w.becomes(t, "Send", got, false)
	sent := &w.tales[d.Me].sent[to]
	*sent = append(slices.Clip(*sent), paper)
}

// flood lets the wet ink of a desk run, or not.
func (w *town) flood(t *testing.T, d api.Desk, smear int) {
	t.Helper()
	got, e := lend.Flood(d, smear)
	expect(t, "Flood", results(e), api.OK)
	w.becomes(t, "Flood", got, true)
	if fmt.Sprint(got.Now) != fmt.Sprint(d.Now) {
		w.lost++
	}
	w.tales[d.Me] = w.tales[d.Me].of(got.Now)
}

// open gives a bag to its parish, and then once more.
func (w *town) open(t *testing.T, b api.Bag) {
	t.Helper()
	d := w.desks[b.To]
	got, e := lend.Open(d, b)
	if e == api.ErrLong && len(d.Now.Holds)+len(b.Parcels) > api.MaxHolds {
		w.full++
		return
	}
	expect(t, fmt.Sprintf("Open of %+v", b), results(e), api.OK)
	w.becomes(t, "Open", got, false)
	taken := &w.tales[b.To].taken[b.From]
	for _, p := range b.Parcels {
		if p.No > d.Now.Taken[b.From] && p.No <= got.Now.Taken[b.From] {
			*taken = append(slices.Clip(*taken), p.Paper)
			w.carried++
		}
	}
	if len(b.Parcels) > 0 && got.Now.Taken[b.From] == d.Now.Taken[b.From] {
		w.again++
	}
	again, e := lend.Open(got, b)
	expect(t, "Open again", results(again, e), got, api.OK)
}

// check expects that each paper is at one place, and that papers were taken in the order in which they were sent.
func (w *town) check(t *testing.T) {
	t.Helper()
	for _, paper := range w.papers {
		at, e := lend.Where(w.desks, paper)
		ways, f := lend.Carried(w.desks, paper)
		if e != api.OK || f != api.OK || len(at)+len(ways) != 1 {
			t.Fatalf("the paper %d is at %v, and carried %v: %v, %v", paper, at, ways, e, f)
		}
	}
	for me, taker := range w.tales {
		for from, sender := range w.tales {
			sent, taken := sender.sent[me], taker.taken[from]
			if len(sent) != w.desks[from].Now.Sent[me] || len(taken) != w.desks[me].Now.Taken[from] || len(taken) > len(sent) || !slices.Equal(taken, sent[:len(taken)]) {
				t.Fatalf("%d has taken %v of what %d has sent: %v", me, taken, from, sent)
			}
			if len(taken) > 0 && len(sent) > 0 && len(w.tales[from].taken[me]) > 0 {
				w.back++
			}
		}
	}
}

// TestP93Towns lets much happen in towns. After each step it checks P9.3, and besides that P9.2, P9.5 and P9.6.
func TestP93Towns(t *testing.T) {
	var all town
	eachSeed(t, 931, 150, func(r *rand.Rand) {
		w := newTown(t, 2+r.IntN(5), 1+r.IntN(6))
		for range 300 {
			w.step(t, r)
			w.check(t)
			if t.Failed() {
				return
			}
		}
		all.lost += w.lost
		all.again += w.again
		all.written += w.written
		all.carried += w.carried
		all.back += w.back
	})
	if min(all.lost, all.again, all.written, all.carried, all.back) < 200 {
		t.Errorf("just %d times something was lost, %d bags came again, %d pages, %d papers carried, %d times also back", all.lost, all.again, all.written, all.carried, all.back)
	}
}

// TestP93Many does so with nearly as many papers as two parishes can have: some bags are too much.
func TestP93Many(t *testing.T) {
	full := 0
	eachSeed(t, 932, 12, func(r *rand.Rand) {
		w := newTown(t, 2, 78)
		for range 60 {
			for range 8 {
				w.step(t, r)
			}
			w.check(t)
			if t.Failed() {
				return
			}
		}
		full += w.full
	})
	if full < 100 {
		t.Errorf("just %d bags were too much", full)
	}
}

// round lets all parishes write, and all bags that they pack for each other be opened, in some order.
func (w *town) round(t *testing.T, r *rand.Rand) {
	t.Helper()
	for _, d := range w.desks {
		w.desks[d.Me] = dried(t, d)
	}
	var bags []api.Bag
	for _, d := range w.desks {
		for to := range w.desks {
			if to != d.Me {
				b, e := lend.Pack(d, to)
				expect(t, "Pack", results(e), api.OK)
				bags = append(bags, b)
			}
		}
	}
	r.Shuffle(len(bags), func(i, j int) { bags[i], bags[j] = bags[j], bags[i] })
	for _, b := range bags {
		w.open(t, b)
	}
}

func TestP94Ends(t *testing.T) {
	rounds := map[int]int{}
	eachSeed(t, 941, 300, func(r *rand.Rand) {
		w := newTown(t, 2+r.IntN(5), 1+r.IntN(40))
		for range r.IntN(150) {
			w.step(t, r)
		}
		many := 0
		for {
			quiet, e := lend.Quiet(w.desks)
			expect(t, "Quiet", results(e), api.OK)
			if quiet {
				break
			}
			if many == 2 {
				t.Fatal("there is something under way yet")
			}
			w.round(t, r)
			w.check(t)
			many++
		}
		rounds[many]++
		for _, paper := range w.papers {
			at, e := lend.Where(w.desks, paper)
			expect(t, "Where", results(len(at), e), 1, api.OK)
		}
	})
	if rounds[2] < 100 || rounds[0] < 10 {
		t.Errorf("after how many rounds nothing was under way: %v", rounds)
	}
}

// world is two desks and the bags that were packed, at some time.
type world struct {
	desks [2]api.Desk
	bags  []api.Bag
}

// name tells worlds apart.
func (w world) name() string {
	var bags []string
	for _, b := range w.bags {
		bags = append(bags, fmt.Sprint(b))
	}
	slices.Sort(bags)
	return fmt.Sprint(w.desks, bags)
}

// next returns the worlds that one thing makes of another.
func (w world) next(t *testing.T) []world {
	var all []world
	add := func(d api.Desk, e api.Errno) {
		switch e {
		case api.OK:
			made := w
			made.desks[d.Me] = d
			all = append(all, made)
		case api.ErrAway:
		default:
			t.Fatalf("%v in %+v", e, w)
		}
	}
	for me, d := range w.desks {
		add(lend.Send(d, 1, 1-me))
		add(lend.Write(d))
		add(lend.Dry(d))
		add(lend.Flood(d, 0))
		add(lend.Flood(d, 1))
		b, _ := lend.Pack(d, 1-me)
		if !slices.ContainsFunc(w.bags, func(other api.Bag) bool { return fmt.Sprint(other) == fmt.Sprint(b) }) {
			all = append(all, world{w.desks, append(slices.Clip(w.bags), b)})
		}
	}
	for _, b := range w.bags {
		add(lend.Open(w.desks[b.To], b))
	}
	return all
}

// TestP93Worlds tries all that may happen to one paper of two parishes, in a few steps.
func TestP93Worlds(t *testing.T) {
	layer := []world{{desks: [2]api.Desk{newDesk(t, 0, 1), newDesk(t, 1)}}}
	seen, both := map[string]bool{}, [2]int{}
	for range 16 {
		made := map[string]world{}
		for _, w := range layer {
			for _, x := range w.next(t) {
				if name := x.name(); !seen[name] {
					seen[name], made[name] = true, x
				}
			}
		}
		layer = slices.Collect(maps.Values(made))
		for _, w := range layer {
			at, _ := lend.Where(w.desks[:], 1)
			ways, _ := lend.Carried(w.desks[:], 1)
			if len(at)+len(ways) != 1 {
				t.Fatalf("the paper is at %v, and carried %v: %+v", at, ways, w)
			}
			both[len(at)]++
		}
	}
	if min(both[0], both[1]) < 1000 {
		t.Errorf("just %d worlds in which it is carried, %d in which it is not", both[0], both[1])
	}
}
