package vestry_test

import (
	"fmt"
	"regexp"
	"slices"
	"strconv"
	"strings"

	"parvise/api"
	"parvise/chest"
	"parvise/due"
	"parvise/keys"
	"parvise/leaf"
	"parvise/lend"
	"parvise/loan"
	"parvise/shelf"
	"parvise/stem"
	"parvise/vellum"
)

// What follows is a plain reading of the chapter.

// plainBook returns records in the order of their items.
func plainBook(log []api.Record) api.Book {
	l := slices.Clone(log)
	slices.SortFunc(l, func(a, b api.Record) int { return 10000*(a.At.Parish-b.At.Parish) + a.At.No - b.At.No })
	return api.Book{Records: l}
}

// saying is all that the records of a book say.
type saying struct {
	deeds    []api.Deed
	ledger   api.Ledger
	glimpses []api.Glimpse
	openings []api.Opening
	persons  map[int][]int // of openings, by their sources
	account  api.Account
}

var plainText = regexp.MustCompile(`^(0|[1-9][0-9]{0,8})( (0|[1-9][0-9]{0,8}))*$`)

func plainSaying(b api.Book) saying {
	s := saying{persons: map[int][]int{}}
	for _, r := range b.Records {
		until := 0
		for _, w := range b.Records {
			if w.Kind == 0 && w.Of == r.At {
				until = w.Known
				break
			}
		}
		if !plainText.MatchString(r.Text) {
			continue
		}
		var n []int
		for _, word := range strings.Fields(r.Text) {
			number, _ := strconv.Atoi(word)
			n = append(n, number)
		}
		if s.add(r, until, n) != api.OK {
			continue
		}
	}
	return s
}

// add adds what a record with these numbers says, or returns why it says nothing.
func (s *saying) add(r api.Record, until int, n []int) api.Errno {
	if len(n) != map[int]int{1: 5, 2: 4, 3: 6, 4: 3, 5: 4, 6: 9, 7: 4, 8: 4, 9: 1, 10: 2, 11: 3}[r.Kind] {
		return api.ErrWords
	}
	source := r.At.Parish*10000 + r.At.No + 1
	var e api.Errno
	switch r.Kind {
	case 1:
		x := api.Deed{At: r.At, Kind: n[0], Lock: n[1], Person: n[2], Day: api.Range{Lo: n[3], Hi: n[4]}, Known: r.Known, Until: until}
		s.deeds, e = with(s.deeds, x, keys.CheckDeed(x))
	case 2:
		if n[3] < 1 || n[3] > 30 {
			return api.ErrArg
		}
		x := api.Receipt{Source: source, Borrower: n[0], Paper: n[1], Leaves: leaves(n[2], n[3]), Day: r.Day, Known: r.Known, Until: until}
		s.ledger.Receipts, e = with(s.ledger.Receipts, x, loan.CheckReceipt(x))
	case 3:
		if n[3] < 1 || n[3] > 30 {
			return api.ErrArg
		}
		x := api.Return{Source: source, Receipt: n[0], Person: n[1], Leaves: leaves(n[2], n[3]), Day: api.Range{Lo: n[4], Hi: n[5]}, Known: r.Known, Until: until}
		s.ledger.Returns, e = with(s.ledger.Returns, x, loan.CheckReturn(x))
	case 4:
		x := api.Sight{Source: source, Person: n[0], Paper: n[1], Leaf: n[2], Day: r.Day, Known: r.Known, Until: until}
		s.ledger.Sights, e = with(s.ledger.Sights, x, loan.CheckSight(x))
	case 5:
		if n[1] != 0 && (n[2] == 0 || n[3] == 0) || n[2] != 0 && n[3] == 0 {
			return api.ErrArg
		}
		x := api.Glimpse{Source: source, Hole: n[0], Marks: without0(n[1:]), Known: r.Known, Until: until}
		s.glimpses, e = with(s.glimpses, x, shelf.CheckGlimpse(x))
	case 6:
		if n[5] != 0 && n[6] == 0 || n[7] != 0 && n[8] == 0 || n[2] < 1 || n[3] <= n[2] || n[4] <= n[3] || n[4] > 99 {
			return api.ErrArg
		}
		x := api.Opening{Source: source, Register: n[0], Day: r.Day, Through: n[1], Lawful: 2, In: without0(n[5:7]), Out: without0(n[7:]), Known: r.Known, Until: until}
		s.persons[source] = n[2:5]
		s.openings, e = with(s.openings, x, chest.CheckOpening(x))
	default:
		e = s.addEntry(r, source, until, n)
	}
	return e
}

// addEntry adds what a record of an account says.
func (s *saying) addEntry(r api.Record, source, until int, n []int) (e api.Errno) {
	a := &s.account
	switch r.Kind {
	case 7:
		x := api.Lent{Source: source, Borrower: n[0], Paper: n[1], Day: r.Day, Due: n[2], Leaves: n[3], Known: r.Known, Until: until}
		a.Lents, e = with(a.Lents, x, due.CheckLent(x))
	case 8:
		x := api.Back{Source: source, Loan: n[0], Leaves: n[1], Day: api.Range{Lo: n[2], Hi: n[3]}, Known: r.Known, Until: until}
		a.Backs, e = with(a.Backs, x, due.CheckBack(x))
	case 9:
		x := api.Asking{Source: source, Loan: n[0], Day: r.Day, Known: r.Known, Until: until}
		a.Askings, e = with(a.Askings, x, due.CheckAsking(x))
	case 10:
		x := api.Payment{Source: source, Loan: n[0], Pence: n[1], Known: r.Known, Until: until}
		a.Payments, e = with(a.Payments, x, due.CheckPayment(x))
	case 11:
		x := api.Surety{Source: source, Loan: n[0], Person: n[1], Worth: n[2], Known: r.Known, Until: until}
		a.Sureties, e = with(a.Sureties, x, due.CheckSurety(x))
	}
	return e
}

// with returns a list with one more element, unless there is an error.
func with[T any](l []T, v T, e api.Errno) ([]T, api.Errno) {
	if e != api.OK {
		return l, e
	}
	return append(l, v), api.OK
}

func without0(l []int) []int {
	return slices.DeleteFunc(slices.Clone(l), func(n int) bool { return n == 0 })
}

func plainOpenings(b api.Book, known int) []api.Opening {
	s := plainSaying(b)
	var l []api.Opening
	for _, o := range s.openings {
		if o.Known > known || o.Until != 0 && o.Until <= known {
			continue
		}
		var e api.Errno
		if o.Lawful, e = keys.Lawful(s.deeds, s.persons[o.Source], o.Day, known); e != api.OK {
			o.Lawful = 2
		}
		if more, e := chest.With(l, o); e == api.OK {
			l = more
		}
	}
	return l
}

// plainVestry does commands by a plain reading.
type plainVestry struct {
	parishes [6]api.Parish
	desks    [6]api.Desk
	set      api.Setting
	letters  []api.Letter
	bags     []api.Bag
}

func newPlain() *plainVestry {
	p := &plainVestry{set: api.Setting{Holes: 1}}
	for i := range 6 {
		p.parishes[i], _ = vellum.NewParish(i)
		p.desks[i], _ = lend.New(i, []int{10*i + 1, 10*i + 2, 10*i + 3})
	}
	return p
}

func (p *plainVestry) state() string {
	var all []any
	for i := range 6 {
		all = append(all, p.parishes[i], p.desks[i])
	}
	return fmt.Sprintf("%+v", append(all, p.set, p.letters, p.bags))
}

var plainUsages = usages()

func (p *plainVestry) do(c api.Command) []string {
	u, is := plainUsages[c.Kind]
	wild := slices.ContainsFunc(c.Args, func(n int) bool { return n < -1000000000 || n > 1000000000 })
	if !is || len(c.Args) != len(u.names) || wild {
		return refusal(api.ErrWords)
	}
	if len(u.names) > 0 && u.names[0] == "PARISH" && (c.Args[0] < 0 || c.Args[0] > 5) {
		return refusal(api.ErrArg)
	}
	var answer string
	var e api.Errno
	switch {
	case c.Kind <= api.CmdClear:
		answer, e = "ok", p.setUp(u.word, c.Args)
	case c.Kind <= api.CmdWithdraw:
		answer, e = p.record(c.Kind, c.Args)
	case c.Kind <= api.CmdRenew:
		answer, e = p.letter(u.word, c.Args)
	case c.Kind <= api.CmdTwice:
		answer, e = p.bag(u.word, c.Args)
	case c.Kind <= api.CmdMisread || c.Kind >= api.CmdDoubt && c.Kind <= api.CmdOverdue:
		answer, e = p.ask(u.word, c.Args)
	default:
		answer, e = p.askAll(u.word, c.Args)
	}
	if e != api.OK {
		return refusal(e)
	}
	if answer == "" {
		answer = "none"
	}
	return strings.Split(answer, "\n")
}

func (p *plainVestry) setUp(word string, a []int) api.Errno {
	s := p.set
	switch word {
	case "paper":
		if e := loan.CheckPaper(api.Paper{Id: a[0], Leaves: a[1]}); e != api.OK {
			return e
		}
		s.Papers = slices.DeleteFunc(slices.Clone(s.Papers), func(x api.Paper) bool { return x.Id == a[0] })
		s.Papers = append(s.Papers, api.Paper{Id: a[0], Leaves: a[1]})
		slices.SortFunc(s.Papers, func(x, y api.Paper) int { return x.Id - y.Id })
		if len(s.Papers) > 12 {
			return api.ErrLong
		}
	case "rule":
		if e := due.CheckRule(api.Rule{From: a[0], Daily: a[1], Leaf: a[2]}); e != api.OK {
			return e
		}
		s.Rules = slices.DeleteFunc(slices.Clone(s.Rules), func(x api.Rule) bool { return x.From == a[0] })
		s.Rules = append(s.Rules, api.Rule{From: a[0], Daily: a[1], Leaf: a[2]})
		slices.SortFunc(s.Rules, func(x, y api.Rule) int { return x.From - y.From })
		if len(s.Rules) > 10 {
			return api.ErrLong
		}
	case "holes":
		if a[0] < 1 || a[0] > 24 {
			return api.ErrArg
		}
		s.Holes, s.Lying = a[0], nil
	case "shelve":
		s.Lying = slices.Clone(s.Lying)
		if !slices.Contains(s.Lying, a[0]) {
			s.Lying = append(s.Lying, a[0])
			slices.Sort(s.Lying)
		}
		if e := shelf.Check(api.Inventory{Holes: s.Holes, Papers: s.Lying}); e != api.OK {
			return e
		}
	case "stray":
		h, e := leaf.Found(s.Heap, api.Stray{Id: a[0], Paper: a[1], First: a[2], Catch: a[3], Holes: a[4], Unsure: a[5]})
		if e != api.OK {
			return e
		}
		s.Heap = h
	case "sew":
		if slices.ContainsFunc(s.Heap.Sewn, func(x api.Sewn) bool { return x.From == a[0] }) {
			return api.ErrHeap
		}
		s.Heap.Sewn = append(slices.Clone(s.Heap.Sewn), api.Sewn{From: a[0], To: a[1]})
		slices.SortFunc(s.Heap.Sewn, func(x, y api.Sewn) int { return x.From - y.From })
		if e := leaf.Check(s.Heap); e != api.OK {
			return e
		}
	case "clear":
		s.Stem, s.Heap = api.Stem{}, api.Heap{}
	default:
		var e api.Errno
		if s.Stem, e = plainCopies(s.Stem, word, a); e != api.OK {
			return e
		}
	}
	p.set = s
	return api.OK
}

// plainCopies sets up what is told of copies.
func plainCopies(s api.Stem, word string, a []int) (api.Stem, api.Errno) {
	has := func(id int) bool {
		return slices.ContainsFunc(s.Copies, func(c api.Copy) bool { return c.Id == id })
	}
	switch word {
	case "copy":
		c := api.Copy{Id: a[0], Words: slices.Clone(a[1:])}
		if !has(a[0]) {
			return stem.With(s, c)
		}
		s.Copies = slices.Clone(s.Copies)
		for i := range s.Copies {
			if s.Copies[i].Id == a[0] {
				s.Copies[i] = c
			}
		}
		return s, stem.CheckCopy(c)
	case "costs":
		s.Costs = api.Costs{Lose: a[0], Gain: a[1], Like: a[2], Turn: a[3]}
		return s, stem.CheckCosts(s.Costs)
	}
	n := api.Never{From: a[0], To: a[1]}
	switch {
	case !has(a[0]) || !has(a[1]) || a[0] == a[1]:
		return s, api.ErrArg
	case slices.Contains(s.Never, n):
		return s, api.OK
	case len(s.Never) == 40:
		return s, api.ErrLong
	}
	s.Never = append(slices.Clone(s.Never), n)
	slices.SortFunc(s.Never, func(x, y api.Never) int { return 100*(x.From-y.From) + x.To - y.To })
	return s, api.OK
}

func (p *plainVestry) record(kind int, a []int) (string, api.Errno) {
	home := &p.parishes[a[0]]
	own := 0
	for _, r := range home.Log {
		if r.At.Parish == a[0] {
			own++
		}
	}
	r := api.Record{At: api.Item{Parish: a[0], No: own}}
	if kind == api.CmdWithdraw {
		r.Known, r.Of = a[1], api.Item{Parish: a[0], No: a[2]}
		if a[2] < 0 || a[2] >= own {
			return "", api.ErrNone
		}
		for _, other := range home.Log {
			if other.Kind == 0 && (other.At == r.Of || other.Of == r.Of) {
				return "", api.ErrArg
			}
		}
	} else {
		r.Kind, r.Day, r.Known, r.Text = kind-10, a[1], a[2], strings.Trim(fmt.Sprint(a[3:]), "[]")
		if e := (&saying{persons: map[int][]int{}}).add(r, 0, a[3:]); e != api.OK {
			return "", e
		}
	}
	next, noted, e := vellum.Note(*home, r)
	if e != api.OK {
		return "", e
	}
	*home = next
	return fmt.Sprint("record ", noted.At.Parish, " ", noted.At.No), api.OK
}

func (p *plainVestry) letter(word string, a []int) (string, api.Errno) {
	at := -1
	if n := len(p.letters); n > 0 {
		at = (a[0]%n + n) % n
	}
	rest := func() []api.Letter { return slices.Concat(p.letters[:at], p.letters[at+1:]) }
	switch word {
	case "send":
		next, l, e := vellum.Send(p.parishes[a[0]], a[1])
		if e != api.OK {
			return "", e
		}
		if len(p.letters) == 40 {
			return "", api.ErrLong
		}
		p.parishes[a[0]], p.letters = next, append(slices.Clone(p.letters), l)
	case "flood":
		next, e := vellum.Restart(p.parishes[a[0]], a[1:])
		if e != api.OK {
			return "", e
		}
		p.parishes[a[0]] = next
		return fmt.Sprint("records ", len(next.Log)), api.OK
	case "renew":
		next, e := vellum.Renew(p.parishes[a[0]])
		if e != api.OK {
			return "", e
		}
		p.parishes[a[0]] = next
		return "ok", api.OK
	default:
		if at < 0 {
			return "", api.ErrNone
		}
		l := p.letters[at]
		if word == "double" {
			if len(p.letters) == 40 {
				return "", api.ErrLong
			}
			p.letters = append(slices.Clone(p.letters), l)
			break
		}
		p.letters = rest()
		if word == "deliver" {
			next, back, e := vellum.Receive(p.parishes[l.To], l)
			if e != api.OK {
				return "", e
			}
			p.parishes[l.To], p.letters = next, append(p.letters, back...)
		}
	}
	return fmt.Sprint("letters ", len(p.letters)), api.OK
}

func (p *plainVestry) bag(word string, a []int) (string, api.Errno) {
	at := -1
	if n := len(p.bags); n > 0 {
		at = (a[0]%n + n) % n
	}
	var e api.Errno
	var next api.Desk
	switch word {
	case "give":
		next, e = lend.Send(p.desks[a[0]], a[1], a[2])
	case "write":
		next, e = lend.Write(p.desks[a[0]])
	case "dry":
		next, e = lend.Dry(p.desks[a[0]])
	case "soak":
		next, e = lend.Flood(p.desks[a[0]], a[1])
	case "pack":
		b, e := lend.Pack(p.desks[a[0]], a[1])
		if e != api.OK {
			return "", e
		}
		if len(p.bags) == 40 {
			return "", api.ErrLong
		}
		p.bags = append(slices.Clone(p.bags), b)
		return fmt.Sprint("bags ", len(p.bags)), api.OK
	default:
		if at < 0 {
			return "", api.ErrNone
		}
		b := p.bags[at]
		if word == "twice" {
			if len(p.bags) == 40 {
				return "", api.ErrLong
			}
			p.bags = append(slices.Clone(p.bags), b)
			return fmt.Sprint("bags ", len(p.bags)), api.OK
		}
		p.bags = slices.Concat(p.bags[:at], p.bags[at+1:])
		if word == "open" {
			next, e := lend.Open(p.desks[b.To], b)
			if e != api.OK {
				return "", e
			}
			p.desks[b.To] = next
		}
		return fmt.Sprint("bags ", len(p.bags)), api.OK
	}
	if e != api.OK {
		return "", e
	}
	p.desks[a[0]] = next
	return "ok", api.OK
}

// The answers of queries: numbers, answers, ranges.

func numbers(l []int, e api.Errno) (string, api.Errno) {
	return strings.Trim(fmt.Sprint(l), "[]"), e
}

func number(n int, e api.Errno) (string, api.Errno) { return fmt.Sprint(n), e }

func answer(n int, e api.Errno) (string, api.Errno) {
	return strings.Fields("no yes maybe")[n], e
}

func ends(r api.Range, e api.Errno) (string, api.Errno) { return fmt.Sprint(r.Lo, " ", r.Hi), e }

// structs are lines of the numbers of structs.
func structs[T any](l []T, e api.Errno) (string, api.Errno) {
	var lines []string
	for _, v := range l {
		lines = append(lines, strings.Trim(fmt.Sprint(v), "{}[]"))
	}
	return strings.Join(lines, "\n"), e
}

// ask asks for what a parish has recorded.
func (p *plainVestry) ask(word string, a []int) (string, api.Errno) {
	b := plainBook(p.parishes[a[0]].Log)
	s := plainSaying(b)
	switch word {
	case "holder":
		return numbers(keys.Holders(s.deeds, a[1], a[2], a[3]))
	case "hand":
		return numbers(keys.Hands(s.deeds, a[1], a[2], a[3]))
	case "office":
		return answer(keys.InOffice(s.deeds, a[1], a[2], a[3]))
	case "lawful":
		return answer(keys.Lawful(s.deeds, []int{a[1], a[2], a[3]}, a[4], a[5]))
	case "openers":
		return numbers(keys.Openers(s.deeds, a[1], a[2]))
	case "doubt", "true", "inside", "unlawful", "content":
		return askOpenings(b, word, a)
	case "fine", "owed", "shares", "overdue":
		s.account.Rules = p.set.Rules
		return askAccount(s.account, word, a)
	case "lies", "hole", "sure", "look", "misread":
		n := api.Inventory{Holes: p.set.Holes, Papers: p.set.Lying}
		for _, g := range s.glimpses {
			all := g.Hole <= n.Holes
			for _, m := range g.Marks {
				all = all && slices.Contains(n.Papers, m)
			}
			if all {
				n.Glimpses = append(n.Glimpses, g)
			}
		}
		return askInventory(n, word, a)
	}
	l := api.Ledger{Papers: p.set.Papers, Returns: s.ledger.Returns}
	for _, x := range l.Papers {
		for _, r := range s.ledger.Receipts {
			if r.Paper == x.Id && r.Leaves[len(r.Leaves)-1] <= x.Leaves {
				l.Receipts = append(l.Receipts, r)
			}
		}
		for _, r := range s.ledger.Sights {
			if r.Paper == x.Id && r.Leaf <= x.Leaves {
				l.Sights = append(l.Sights, r)
			}
		}
	}
	slices.SortFunc(l.Receipts, func(x, y api.Receipt) int { return x.Source - y.Source })
	slices.SortFunc(l.Sights, func(x, y api.Sight) int { return x.Source - y.Source })
	return askLedger(l, word, a)
}

func askLedger(l api.Ledger, word string, a []int) (string, api.Errno) {
	switch word {
	case "where":
		return numbers(loan.Where(l, api.Folio{Paper: a[1], Leaf: a[2]}, a[3], a[4]))
	case "whole":
		return answer(loan.Whole(l, a[1], a[2], a[3]))
	case "days":
		return ends(loan.Days(l, a[1], a[2]))
	case "has":
		return structs(loan.Has(l, a[1], a[2], a[3]))
	}
	return numbers(loan.Clash(l, a[1]))
}

func askInventory(n api.Inventory, word string, a []int) (string, api.Errno) {
	switch word {
	case "lies":
		return answer(shelf.Lies(n, a[1], a[2], a[3]))
	case "hole":
		return numbers(shelf.Where(n, a[1], a[2]))
	case "look":
		return numbers(shelf.Again(n, a[1], a[2]))
	case "sure":
		return structs(shelf.Sure(n, a[1]))
	}
	return numbers(shelf.Clash(n, a[1]))
}

func askOpenings(b api.Book, word string, a []int) (string, api.Errno) {
	known := a[len(a)-1]
	if known < 0 || known > 100000 {
		return "", api.ErrDay
	}
	l := plainOpenings(b, known)
	switch word {
	case "doubt":
		return number(chest.Fewest(l, known))
	case "true":
		return answer(chest.True(l, a[1], known))
	case "inside":
		return answer(chest.Inside(l, a[1], a[2], known))
	case "unlawful":
		return numbers(chest.Unlawful(l, known))
	}
	return numbers(chest.Content(l, a[1], known))
}

func askAccount(x api.Account, word string, a []int) (string, api.Errno) {
	switch word {
	case "fine":
		return ends(due.Fine(x, a[1], a[2]))
	case "owed":
		return number(due.Owed(x, a[1], a[2]))
	case "shares":
		return structs(due.Shares(x, a[1], a[2]))
	}
	return numbers(due.Overdue(x, a[1]))
}

// askAll asks for what all parishes have.
func (p *plainVestry) askAll(word string, a []int) (string, api.Errno) {
	s, h := p.set.Stem, p.set.Heap
	switch word {
	case "fewest":
		return number(stem.Fewest(s))
	case "parent":
		return answer(stem.Parent(s, a[0], a[1]))
	case "roots":
		return numbers(stem.Roots(s))
	case "agreed":
		return numbers(stem.Agreed(s))
	case "pedigree":
		return numbers(stem.Pedigree(s))
	case "prove":
		bound, e := stem.Fewest(s)
		weights, _ := stem.Proof(s)
		return fmt.Sprint("bound ", bound, "\nproof ", strings.NewReplacer("{", "", "}", "", "[", "", "]", "").Replace(fmt.Sprint(weights))), e
	case "order":
		return numbers(leaf.Order(h, a[0]))
	case "orders":
		return number(leaf.Count(h, a[0]))
	case "next":
		return structs(leaf.Sure(h, a[0]))
	case "place":
		x, e := leaf.Place(h, a[0])
		return fmt.Sprint(x.First, " ", x.Last), e
	case "holds":
		return numbers(lend.Holds(p.desks[a[0]]))
	case "at":
		return numbers(lend.Where(p.desks[:], a[0]))
	case "carried":
		return structs(lend.Carried(p.desks[:], a[0]))
	}
	var all []string
	for _, x := range p.parishes {
		all = append(all, fmt.Sprint("records ", len(x.Log)))
	}
	return strings.Join(all, "\n"), api.OK
}

// plainTelling is all that the records of a book say, as known on a day, as the calls of vestry return it.
func plainTelling(b api.Book, known int) result {
	s := plainSaying(b)
	return results(s.deeds, s.ledger, s.glimpses, plainOpenings(b, known), s.account, api.OK, api.OK, api.OK, api.OK, api.OK)
}
