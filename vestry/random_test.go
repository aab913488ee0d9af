package vestry_test

import (
	"fmt"
	"maps"
	"math/rand/v2"
	"slices"
	"strings"
	"testing"

	"parvise/api"
	"parvise/vestry"
)

// between returns a number from lo to hi.
func between(r *rand.Rand, lo, hi int) int { return lo + r.IntN(hi-lo+1) }

// few returns one of a few numbers.
func few(r *rand.Rand, l ...int) int { return l[r.IntN(len(l))] }

// maker makes commands that suit what was done before: most of them of a few kinds.
type maker struct {
	*rand.Rand
	p     *plainVestry
	kinds []int
}

// groups are kinds of commands that have to do with each other.
func groups() [][]int {
	upTo := func(lo, hi int) []int { return leaves(lo, hi-lo+1) }
	return [][]int{
		append(upTo(api.CmdHolder, api.CmdOpeners), api.CmdDeed, api.CmdDeed, api.CmdDeed),
		append(upTo(api.CmdWhere, api.CmdClash), api.CmdReceipt, api.CmdReturn, api.CmdSight),
		append(upTo(api.CmdLies, api.CmdMisread), api.CmdShelve, api.CmdGlimpse, api.CmdGlimpse),
		append(upTo(api.CmdFewest, api.CmdProve), api.CmdCopy, api.CmdCopy, api.CmdNever, api.CmdCosts),
		append(upTo(api.CmdOrder, api.CmdPlace), api.CmdStray, api.CmdStray, api.CmdSew),
		append(upTo(api.CmdDoubt, api.CmdContent), api.CmdOpening, api.CmdOpening, api.CmdDeed),
		append(upTo(api.CmdLent, api.CmdSurety), api.CmdFine, api.CmdOwed, api.CmdShares, api.CmdShares, api.CmdOverdue, api.CmdRule),
		append(upTo(api.CmdSend, api.CmdDouble), api.CmdSend, api.CmdDeliver, api.CmdDeliver, api.CmdDeliver, api.CmdFlood, api.CmdRenew, api.CmdAsking, api.CmdRecords, api.CmdWithdraw),
		append(upTo(api.CmdGive, api.CmdTwice), api.CmdGive, api.CmdWrite, api.CmdDry, api.CmdPack, api.CmdPack, api.CmdHolds, api.CmdAt, api.CmdCarried),
	}
}

// newMaker returns one that makes commands of one group, most of the time.
func newMaker(r *rand.Rand, p *plainVestry) *maker {
	all := groups()
	return &maker{r, p, all[r.IntN(len(all))]}
}

// next returns a right command.
func (m *maker) next() api.Command {
	kind := m.kinds[m.IntN(len(m.kinds))]
	if m.IntN(4) == 0 {
		all := slices.Collect(maps.Keys(plainUsages))
		slices.Sort(all)
		kind = all[m.IntN(len(all))]
	}
	if (kind == api.CmdClear || kind == api.CmdHoles) && m.IntN(3) > 0 {
		kind = api.CmdWithdraw
	}
	c := api.Command{Kind: kind}
	if kind >= api.CmdDeed && kind <= api.CmdSurety {
		c.Args = m.record(kind - api.CmdDeed + api.RecDeed)
	} else {
		c.Args = m.numbers(kind)
	}
	if len(c.Args) > 0 && m.IntN(12) == 0 {
		c.Args[m.IntN(len(c.Args))] = few(m.Rand, -1, 0, 6, 1000, 100001, someNumber(m.Rand))
	}
	return c
}

// place returns a parish: one of the first ones.
func (m *maker) place() int { return few(m.Rand, 0, 0, 0, 0, 1, 1, 2) }

// source returns one of what a parish has of a kind, if there is one.
func (m *maker) source(place, kind int) int {
	l := []int{10000*place + between(m.Rand, 1, 20)}
	for _, r := range m.p.parishes[place].Log {
		if r.Kind == kind && m.IntN(9) > 0 {
			l = append(l, 10000*r.At.Parish+r.At.No+1)
		}
	}
	return l[max(m.IntN(len(l)), min(1, len(l)-1))]
}

// numbers returns those of a command that records nothing.
func (m *maker) numbers(kind int) []int {
	r, place := m.Rand, m.place()
	known := few(r, 10, between(r, 0, 40), between(r, 30, 80), between(r, 30, 80), between(r, 60, 150))
	switch kind {
	case api.CmdStray:
		holes := r.IntN(8)
		return []int{between(r, 1, 6), 3, few(r, 0, 0, 1, 2, 3), few(r, 0, 0, 1, 2, 3), holes, r.IntN(8) &^ holes}
	case api.CmdCosts:
		return []int{between(r, 0, 3), between(r, 0, 3), between(r, 0, 3), between(r, 0, 3)}
	case api.CmdLawful:
		return []int{place, 1, 2, between(r, 3, 4), between(r, 0, 60), known}
	case api.CmdWhere:
		return []int{place, between(r, 4, 5), between(r, 1, 3), between(r, 0, 90), known}
	case api.CmdWhole:
		return []int{place, between(r, 4, 5), between(r, 0, 90), known}
	case api.CmdHole, api.CmdLook:
		return []int{place, few(r, 4, 5, 5, 7, 7), known}
	case api.CmdLies:
		return []int{place, few(r, 4, 5, 5, 7, 7), between(r, 1, 3), known}
	case api.CmdInside:
		return []int{place, few(r, 4, 5, 5, 7, 7), between(r, 0, 60), known}
	case api.CmdAt, api.CmdCarried:
		return []int{few(r, 1, 2, 3, 11, 12, 21, 31)}
	case api.CmdDays:
		return []int{place, m.source(place, api.RecReturn), known + 30}
	case api.CmdTrue:
		return []int{place, m.source(place, api.RecOpening), known}
	case api.CmdFine, api.CmdOwed, api.CmdShares:
		return []int{place, m.source(place, api.RecLent), known}
	case api.CmdGive:
		return []int{place, few(r, append(slices.Clone(m.p.desks[place].Now.Holds), 1)...), (place + between(r, 1, 2)) % 3}
	case api.CmdSend, api.CmdPack:
		return []int{place, few(r, 0, 1, 2)}
	case api.CmdFlood:
		return []int{place, r.IntN(200), r.IntN(2), r.IntN(200), r.IntN(200), 0, 0}
	}
	var l []int
	for _, name := range plainUsages[kind].names {
		n, is := map[string]int{
			"PARISH": place, "DAY": between(r, 0, 40), "KNOWN": known, "PERSON": between(r, 0, 4), "LEAF": between(r, 1, 3), "LOCK": between(r, 1, 3), "HOLE": between(r, 1, 3), "LEAVES": between(r, 1, 4),
			"PAPER": few(r, 3, 4, 5, 7, 11), "ID": between(r, 1, 5), "TO": between(r, 1, 5), "WORD": between(r, 0, 3), "NO": between(r, 0, 20),
		}[name]
		if !is {
			n = r.IntN(10)
		}
		if kind >= api.CmdOrder && kind <= api.CmdNext {
			n = 3
		}
		l = append(l, n)
	}
	return l
}

// record returns the numbers of a command by which a parish records something.
func (m *maker) record(kind int) []int {
	r, place, day := m.Rand, few(m.Rand, 0, 0, 0, 0, 0, 0, 1), between(m.Rand, 0, 30)
	known := day + few(r, 0, 0, 3, 10, 30)
	first := between(r, 1, 3)
	many := between(r, 1, 4-first)
	lo := day + between(r, 0, 9)
	hi := lo + between(r, 0, 25)
	person, lock, paper := between(r, 1, 4), between(r, 1, 3), few(r, 4, 4, 5)
	loan := m.source(place, api.RecLent)
	var l []int
	switch kind {
	case api.RecDeed:
		lo, hi = few(r, 0, 2, lo), 10+hi
		l = [][]int{{few(r, 1, 1, 1, 2), 0, person, lo / 4, 5 + lo}, {few(r, 3, 3, 4), lock, few(r, lock, lock, person), lo, hi}, {few(r, 5, 5, 6), lock, 0, lo, hi}}[few(r, 0, 0, 1, 1, 1, 2)]
	case api.RecReceipt:
		day = few(r, 0, 30, 60) + between(r, 0, 5)
		l = []int{person, paper, first, many}
	case api.RecReturn:
		receipt := m.source(place, api.RecReceipt)
		for _, x := range plainSaying(plainBook(m.p.parishes[place].Log)).ledger.Receipts {
			if x.Source == receipt && m.IntN(9) > 0 {
				first = few(r, x.Leaves...)
				many = between(r, 1, x.Leaves[len(x.Leaves)-1]-first+1)
				lo, hi = x.Day+between(r, 0, 9), x.Day+between(r, 9, 30)
			}
		}
		l = []int{receipt, person, first, many, lo, hi}
	case api.RecSight:
		l = []int{few(r, 0, 0, 0, person), paper, first}
	case api.RecGlimpse:
		l = [][]int{{lock, 0, 0, few(r, 0, 5, 7)}, {lock, 0, 5, 7}, {lock, 0, 0, 7}, {lock, 4, 5, 7}, {lock, 0, 5, 9}}[few(r, 0, 1, 1, 1, 2, 3, 4)]
	case api.RecOpening:
		day *= 2
		known = few(r, known, 10, 20)
		l = []int{few(r, 1, 2), day + few(r, 0, 1, 5, 9), 1, 2, few(r, 3, 3, 4), few(r, 0, 0, 4), few(r, 5, 7), few(r, 0, 0, 4), few(r, 0, 5, 7, 9)}
	case api.RecLent:
		l = []int{person, paper, day + between(r, 0, 9), between(r, 1, 5)}
	case api.RecBack:
		known = hi + between(r, 0, 5)
		l = []int{loan, between(r, 1, 3), lo, hi}
	case api.RecAsking:
		l = []int{loan}
	case api.RecPayment:
		l = []int{loan, between(r, 1, 60)}
	case api.RecSurety:
		l = []int{loan, person, between(r, 0, 60)}
	}
	return append([]int{place, day, known}, l...)
}

// beginning is how most random scripts begin.
const beginning = "paper 4 3\npaper 5 3\nrule 0 2 50\nrule 15 3 7\nholes 3\nshelve 5\nshelve 7\ncosts 2 9 1 4\ncopy 1 1 2 3 4 5 6\ncopy 2 1 2 4 4 5 6\ncopy 3 1 0 4 4 5 6\n" +
	"deed 0 0 0 1 0 1 0 0\ndeed 0 0 0 1 0 2 0 0\ndeed 0 0 0 1 0 3 0 0\ndeed 0 0 0 3 1 1 0 0\ndeed 0 0 0 3 2 2 0 0\ndeed 0 0 0 3 3 3 0 5\n"

// someScript does so many commands at a plain vestry, and yields each one and its answer.
func someScript(t *testing.T, r *rand.Rand, many int, p *plainVestry, yield func(c api.Command, answer []string)) {
	t.Helper()
	m := newMaker(r, p)
	var l []api.Command
	if r.IntN(9) > 0 {
		for line := range strings.Lines(beginning) {
			l = append(l, command(t, strings.TrimSuffix(line, "\n")))
		}
	}
	for i := range many {
		c := m.next()
		if i < len(l) {
			c = l[i]
		}
		yield(c, p.do(c))
	}
}

// TestP102Random does random commands, and holds the answers, and what the vestry has then, against a plain reading of the chapter.
func TestP102Random(t *testing.T) {
	told, refused := map[string]map[string]int{}, map[string]map[string]int{}
	eachSeed(t, 1021, 350, func(r *rand.Rand) {
		v, p := vestry.New(), newPlain()
		someScript(t, r, 100, p, func(c api.Command, want []string) {
			if t.Failed() {
				return
			}
			expect(t, fmt.Sprint("the command ", c), results(v.Do(c)), want)
			if after := p.state(); state(v) != after {
				t.Errorf("the state behind the command %v: %s; expected %s", c, state(v), after)
			}
			word, answers := plainUsages[c.Kind].word, told
			if strings.HasPrefix(want[0], "error") {
				answers = refused
			}
			if answers[word] == nil {
				answers[word] = map[string]int{}
			}
			answers[word][strings.Join(want, "/")]++
		})
		for place := range 3 {
			for _, known := range []int{between(r, 0, 60), between(r, 0, 120)} {
				b := book(v, place)
				expect(t, "what the records say", all(b, known), plainTelling(b, known)...)
			}
		}
	})
	for kind, u := range plainUsages {
		least := 2
		if kind <= api.CmdClear || told[u.word]["ok"] > 0 {
			least = 1
		}
		if got := told[u.word]; len(got) < least {
			t.Errorf("%s has just these answers: %v", u.word, got)
		}
		if kind != api.CmdClear && kind != api.CmdRecords && len(refused[u.word]) == 0 {
			t.Errorf("%s was never refused", u.word)
		}
	}
}
