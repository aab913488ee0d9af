package vellum_test

import (
	"fmt"
	"math/rand/v2"
	"slices"
	"strings"
	"testing"

	"parvise/api"
	"parvise/vellum"
)

// joined returns the join of two books, which there has to be.
func joined(t *testing.T, a, b api.Book) api.Book {
	t.Helper()
	both, e := vellum.Join(a, b)
	expect(t, "Join", results(e, vellum.Check(both)), api.OK, api.OK)
	return both
}

// inTurns returns the records of a log, as if the parishes had taken turns otherwise.
func inTurns(r *rand.Rand, log []api.Record) []api.Record {
	var own [api.MaxParishes][]api.Record
	for _, x := range log {
		own[x.At.Parish] = append(own[x.At.Parish], x)
	}
	var other []api.Record
	for len(other) < len(log) {
		l := &own[r.IntN(api.MaxParishes)]
		if len(*l) > 0 {
			other = append(other, (*l)[0])
			*l = (*l)[1:]
		}
	}
	return other
}

// part returns what one who heard just of some records of each parish knows of a book.
func part(r *rand.Rand, b api.Book) api.Book {
	var until [api.MaxParishes]int
	for i := range until {
		until[i] = r.IntN(1 + ofParish(b.Records, i))
	}
	return api.Book{Records: slices.DeleteFunc(slices.Clone(b.Records), func(x api.Record) bool { return x.At.No >= until[x.At.Parish] })}
}

func TestP82Books(t *testing.T) {
	moved := 0
	eachSeed(t, 821, 1500, func(r *rand.Rand) {
		log := someLog(r, r.IntN(25))
		all, e := vellum.Sorted(log)
		expect(t, "Sorted", results(e, vellum.Check(all)), api.OK, api.OK)
		other := inTurns(r, log)
		expect(t, "Sorted of other turns", results(vellum.Sorted(other)), all, api.OK)
		if !slices.Equal(log, other) {
			moved++
		}
		a, b := part(r, all), part(r, all)
		both := joined(t, a, b)
		expect(t, "Join the other way round", results(vellum.Join(b, a)), both, api.OK)
		for _, within := range []api.Book{a, b, both, {}} {
			expect(t, "Join with a part", results(vellum.Join(both, within)), both, api.OK)
			for _, x := range within.Records {
				expect(t, fmt.Sprint("has ", x), results(slices.Contains(both.Records, x)), true)
			}
		}
		for _, x := range both.Records {
			expect(t, fmt.Sprint("was ", x), results(slices.Contains(a.Records, x) || slices.Contains(b.Records, x)), true)
		}
		expect(t, "Join with itself", results(vellum.Join(a, a)), a, api.OK)
		// The book of a log is what is added, one record after the other.
		var one api.Book
		for _, x := range log {
			one, e = vellum.Add(one, x)
			expect(t, "Add", results(e), api.OK)
		}
		expect(t, "all added", results(one), all)
		// Two parts with a record that differs are not joined.
		if i := len(a.Records); i > 0 && len(b.Records) > 0 {
			x := &a.Records[r.IntN(i)]
			x.Known += 7
			want := slices.ContainsFunc(b.Records, func(y api.Record) bool { return y.At == x.At })
			_, e := vellum.Join(a, b)
			_, f := vellum.Join(b, a)
			expect(t, "Join of what differs", results(e, f), verdict(!want, api.ErrDiffer), verdict(!want, api.ErrDiffer))
		}
	})
	if moved < 500 {
		t.Errorf("just %d other turns", moved)
	}
}

// TestP9KnownLater adds records that become known later: nothing that is as known on a day changes.
func TestP9KnownLater(t *testing.T) {
	eachSeed(t, 822, 1500, func(r *rand.Rand) {
		log := someLog(r, r.IntN(12))
		b, _ := vellum.Sorted(log)
		known := r.IntN(6)
		want, e := vellum.Standing(b, known)
		for range 4 {
			x := someNext(r, b.Records, 6)
			x.Known = known + 1 + r.IntN(3)
			var f api.Errno
			b, f = vellum.Add(b, x)
			expect(t, "Add", results(e, f), api.OK, api.OK)
			expect(t, fmt.Sprint("Standing with ", x), results(vellum.Standing(b, known)), want, api.OK)
		}
	})
}

func TestP83Texts(t *testing.T) {
	eachSeed(t, 831, 5000, func(r *rand.Rand) {
		x := someRecord(r, r.IntN(6), r.IntN(10000))
		text, e := vellum.Encode(x)
		expect(t, "Encode", results(text, e), plainText(x), api.OK)
		expect(t, "Decode of Encode", results(vellum.Decode(text)), x, api.OK)
		_, e = vellum.Line(1+r.IntN(99999), r.IntN(10000), text)
		expect(t, "Line", results(e), api.OK)
	})
	for _, x := range full() {
		text, e := vellum.Encode(x)
		expect(t, "Encode of a long one", results(len(text) <= 240, e), true, api.OK)
		expect(t, "Decode of a long one", results(vellum.Decode(text)), x, api.OK)
	}
}

// TestP83Spoilt has each sheet without its last bytes, and with each byte replaced: just what stands ahead of it is left.
func TestP83Spoilt(t *testing.T) {
	eachSeed(t, 832, 60, func(r *rand.Rand) {
		log := someLog(r, r.IntN(7))
		k, no := r.IntN(len(log)+1), 1+r.IntN(99999)
		begun, e := vellum.Begin(no, log[:k])
		expect(t, "Begin", results(e), api.OK)
		text := begun
		for i, x := range log[k:] {
			one, e := vellum.Encode(x)
			more, f := vellum.Line(no, k+2+i, one)
			expect(t, "Encode, Line", results(e, f), api.OK, api.OK)
			text += more
		}
		for at := range len(text) {
			// The lines that are whole ahead of the byte.
			ahead := strings.Count(text[:at], "\n")
			want, whole := []api.Record(nil), ahead >= k+2
			if whole {
				want = log[:ahead-2]
			}
			expect(t, fmt.Sprint("Scan of ", at, " bytes"), results(vellum.Scan(api.Sheet{No: no, Dry: text[:at]})), want, whole)
			cut := r.IntN(len(text) + 1)
			bad := smeared(text, at)
			expect(t, fmt.Sprint("Scan of ~ at ", at), results(vellum.Scan(api.Sheet{No: no, Dry: bad[:cut], Wet: bad[cut:]})), want, whole)
		}
		expect(t, "Scan of all", results(vellum.Scan(api.Sheet{No: no, Wet: text})), log, true)
	})
}

// work is vellum that is made step by step, its log, and how much of that was there at the last Dry or Open.
type work struct {
	v    api.Vellum
	log  []api.Record
	firm int
}

// step does something with vellum.
func (w *work) step(t *testing.T, r *rand.Rand) {
	t.Helper()
	var e api.Errno
	switch r.IntN(9) {
	default:
		w.v, w.log, e = vellum.Write(w.v, w.log, someNext(r, w.log, 4))
	case 0:
		w.v, w.firm = vellum.Dry(w.v), len(w.log)
	case 1, 2:
		v, f := vellum.Turn(w.v, w.log)
		if f == api.OK {
			w.v = v
		} else {
			expect(t, "Turn", results(f, len(w.v.Sheets)), api.ErrLong, api.MaxSheets)
		}
	case 3:
		w.v = vellum.Scrape(w.v)
	case 4:
		if r.IntN(4) == 0 {
			w.v, w.log = vellum.Open(vellum.Flood(w.v, somePicks(r)))
			w.firm = len(w.log)
		}
	}
	expect(t, "step", results(e, vellum.CheckVellum(w.v, w.log)), api.OK, api.OK)
}

// flood expects that a flood leaves what was dry, and the first ones of the records that were written then; it returns how many.
func (w *work) flood(t *testing.T, picks []int) int {
	t.Helper()
	v, got := vellum.Open(vellum.Flood(w.v, picks))
	if len(got) < w.firm || !isPrefix(got, w.log) {
		t.Errorf("Flood with %v of %v leaves %v; of %v %d were dry", picks, w.v, got, w.log, w.firm)
	}
	expect(t, "CheckVellum", results(vellum.CheckVellum(v, got), len(v.Sheets), v.Sheets[0].Wet), api.OK, 1, "")
	return len(got)
}

func TestP84Floods(t *testing.T) {
	none, some, all := 0, 0, 0
	eachSeed(t, 841, 250, func(r *rand.Rand) {
		w := work{v: vellum.New()}
		for len(w.log) < 50 {
			w.step(t, r)
			for range 2 {
				switch left := w.flood(t, somePicks(r)); {
				case left == len(w.log):
					all++
				case left == w.firm:
					none++
				default:
					some++
				}
			}
			if t.Failed() || r.IntN(60) == 0 {
				break
			}
		}
	})
	if min(none, some, all) < 1000 {
		t.Errorf("of what was wet nothing was left just %d times, some %d times, all %d times", none, some, all)
	}
}

// TestP84EachFlood lets the ink of sheets run in each way.
func TestP84EachFlood(t *testing.T) {
	a, b, c := record(0, 0, "a"), record(1, 0, "b"), record(0, 1, "c")
	v := vellum.Dry(inked(t, records(a)))
	v, log, _ := vellum.Write(v, records(a), b)
	v = turned(t, v, log)
	v, log, e := vellum.Write(v, log, c)
	expect(t, "Write", results(log, e), records(a, b, c), api.OK)
	w := work{v: v, log: log, firm: 1}
	first, second := v.Sheets[0].Wet, v.Sheets[1].Wet
	count := map[int]int{}
	for _, other := range []int{0, len(first) - 1, len(first)} {
		for n := range len(second) + 1 {
			for at := range max(1, n) {
				for b := range 2 {
					left := w.flood(t, []int{other, 0, 0, n, b, at})
					count[left]++
				}
			}
		}
	}
	for n := range len(first) + 1 {
		for at := range max(1, n) {
			for b := range 2 {
				count[w.flood(t, []int{n, b, at, 0, 0, 0})]++
			}
		}
	}
	if min(count[1], count[2], count[3]) < 20 || len(count) != 3 {
		t.Errorf("left: %v", count)
	}
}

// TestP84All leaves all of the ink: all records are there, on the last sheet.
func TestP84All(t *testing.T) {
	eachSeed(t, 842, 200, func(r *rand.Rand) {
		w := work{v: vellum.New()}
		for range 25 {
			w.step(t, r)
			v, log := vellum.Open(w.v)
			last := w.v.Sheets[len(w.v.Sheets)-1].No
			want := sheets(api.Sheet{No: last, Dry: plainSheet(last, len(w.log), w.log)})
			expect(t, "Open", results(v, log), want, w.log)
			again, log := vellum.Open(v)
			expect(t, "Open again", results(again, log), v, w.log)
		}
	})
}

// country is parishes that send each other letters, by carriers who get lost, come twice, or late.
type country struct {
	parishes []api.Parish
	letters  []api.Letter
	said     [api.MaxParishes][api.MaxParishes]int // how many of the log of another one a parish said it had taken
	floods   int
	lost     int // records, in floods
	early    int // letters that came ahead of others
}

func newCountry(t *testing.T, many int) *country {
	t.Helper()
	var c country
	for me := range many {
		p, e := vellum.NewParish(me)
		expect(t, "NewParish", results(e), api.OK)
		c.parishes = append(c.parishes, p)
	}
	return &c
}

// posts takes letters of a parish to be carried.
func (c *country) posts(l ...api.Letter) {
	for _, x := range l {
		c.said[x.From][x.To] = max(c.said[x.From][x.To], x.Seen)
	}
	c.letters = append(c.letters, l...)
}

// receive gives a letter to its parish.
func (c *country) receive(t *testing.T, l api.Letter) {
	t.Helper()
	p := &c.parishes[l.To]
	if l.First > p.Taken[l.From] && len(l.Records) > 0 {
		c.early++
	}
	q, back, e := vellum.Receive(*p, l)
	if e == api.ErrLong {
		return
	}
	expect(t, "Receive", results(e), api.OK)
	*p = q
	c.posts(back...)
}

// step lets something happen.
func (c *country) step(t *testing.T, r *rand.Rand) {
	t.Helper()
	me := r.IntN(len(c.parishes))
	p := &c.parishes[me]
	var e api.Errno
	switch r.IntN(8) {
	case 0, 1:
		if len(p.Log) < api.MaxRecords {
			*p, _, e = vellum.Note(*p, someRecord(r, me, ofParish(p.Log, me)))
		}
	case 2, 3:
		q, l, f := vellum.Send(*p, (me+1+r.IntN(len(c.parishes)-1))%len(c.parishes))
		*p, e = q, f
		c.posts(l)
	case 4:
		if r.IntN(3) == 0 {
			*p, e = vellum.Renew(*p)
		}
	case 5:
		if r.IntN(3) == 0 {
			q, f := vellum.Restart(*p, somePicks(r))
			c.lost += len(p.Log) - len(q.Log)
			c.floods++
			*p, e = q, f
		}
	default:
		c.carry(t, r)
	}
	expect(t, "step", results(e), api.OK)
}

// carry takes a letter from those that are carried: it is lost, received, or received and carried once more.
func (c *country) carry(t *testing.T, r *rand.Rand) {
	t.Helper()
	if len(c.letters) == 0 {
		return
	}
	at := r.IntN(len(c.letters))
	l := c.letters[at]
	way := r.IntN(5)
	if way != 0 {
		c.letters = slices.Delete(c.letters, at, at+1)
	}
	if way != 1 {
		c.receive(t, l)
	}
}

// check expects that all parishes have what they said they had taken, or know that they have.
func (c *country) check(t *testing.T) {
	t.Helper()
	for _, p := range c.parishes {
		expect(t, "CheckVellum", results(vellum.CheckVellum(p.Vellum, p.Log)), api.OK)
		for _, other := range c.parishes {
			for _, many := range []int{c.said[p.Me][other.Me], p.Taken[other.Me]} {
				if len(other.Log) < many || slices.ContainsFunc(other.Log[:many], func(x api.Record) bool { return !slices.Contains(p.Log, x) }) {
					t.Fatalf("%d said it had taken %d of %d, which has %v; it has %v", p.Me, many, other.Me, other.Log, p.Log)
				}
			}
		}
	}
}

// someCountry returns one in which much has happened; it is checked after each step.
func someCountry(t *testing.T, r *rand.Rand, steps int) *country {
	c := newCountry(t, 2+r.IntN(5))
	for range steps {
		c.step(t, r)
		c.check(t)
		if t.Failed() {
			break
		}
	}
	return c
}

func TestP85Letters(t *testing.T) {
	var all country
	taken := 0
	eachSeed(t, 851, 120, func(r *rand.Rand) {
		c := someCountry(t, r, 100+r.IntN(200))
		all.floods += c.floods
		all.lost += c.lost
		all.early += c.early
		for _, said := range c.said {
			taken += max(said[0], said[1])
		}
	})
	if min(all.floods, all.lost, all.early, taken/10) < 100 {
		t.Errorf("just %d floods, %d records lost, %d letters early, %d records taken", all.floods, all.lost, all.early, taken)
	}
}

// exchange lets two parishes of a country send each other letters, until none has records; it returns how often they did.
func (c *country) exchange(t *testing.T, a, b int) int {
	t.Helper()
	for round := 1; round < 40; round++ {
		c.letters = nil
		for _, way := range [][2]int{{a, b}, {b, a}} {
			p, l, e := vellum.Send(c.parishes[way[0]], way[1])
			expect(t, "Send", results(e), api.OK)
			c.parishes[way[0]] = p
			c.posts(l)
		}
		brought := 0
		for many := 0; len(c.letters) > 0; many++ {
			l := c.letters[0]
			c.letters = c.letters[1:]
			brought += len(l.Records)
			c.receive(t, l)
			if many == 1000 {
				t.Fatal("there is no end of letters")
			}
		}
		if brought == 0 {
			return round
		}
	}
	t.Fatal("there is no end of records")
	return 0
}

func TestP86Equal(t *testing.T) {
	apart, rounds := 0, 0
	eachSeed(t, 861, 150, func(r *rand.Rand) {
		c := someCountry(t, r, r.IntN(120))
		a, _ := vellum.Sorted(c.parishes[0].Log)
		b, _ := vellum.Sorted(c.parishes[1].Log)
		both, e := vellum.Join(a, b)
		if e == api.ErrLong {
			return
		}
		expect(t, "Join", results(e), api.OK)
		if len(both.Records) > max(len(a.Records), len(b.Records)) {
			apart++
		}
		rounds = max(rounds, c.exchange(t, 0, 1))
		c.check(t)
		for _, p := range c.parishes[:2] {
			expect(t, fmt.Sprint("the book of ", p.Me), results(vellum.Sorted(p.Log)), both, api.OK)
		}
	})
	if apart < 50 || rounds < 2 {
		t.Errorf("just %d were apart; at most %d rounds", apart, rounds)
	}
}
