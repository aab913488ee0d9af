package loan

import (
	"iter"
	"slices"

	"parvise/api"
	"parvise/basic"
)

// account is what the receipts and returns of a ledger tell, as known on a day.
type account struct {
	ledger   api.Ledger
	known    int
	receipts []api.Receipt // those that count
	sights   []api.Sight   // those that count
	returns  map[slip]int  // the indexes of the returns of leaves
	tells    []bool        // which returns tell
	spans    []span        // the days of each return; all days of one that does not tell
}

// slip is a leaf on a receipt.
type slip struct{ receipt, leaf int }

// span is days, of which there are none if Lo is greater than Hi.
type span struct{ api.Range }

// upTo leaves those that are at most a day.
func (s *span) upTo(day int) { s.Hi = min(s.Hi, day) }

// behind leaves those that are greater than a day.
func (s *span) behind(day int) { s.Lo = max(s.Lo, day+1) }

func (s span) empty() bool { return s.Lo > s.Hi }

// open reads a valid ledger, but for its sights: these need receipts that agree.
func open(l api.Ledger, known int) account {
	a := account{ledger: l, known: known, returns: map[slip]int{}}
	for _, r := range l.Receipts {
		if basic.Counts(r.Known, r.Until, known) {
			a.receipts = append(a.receipts, r)
		}
	}
	for _, s := range l.Sights {
		if basic.Counts(s.Known, s.Until, known) {
			a.sights = append(a.sights, s)
		}
	}
	a.tells = make([]bool, len(l.Returns))
	a.spans = make([]span, len(l.Returns))
	for i := range l.Returns {
		a.read(i)
	}
	return a
}

// read enters the i-th return, behind all with lesser sources.
func (a account) read(i int) {
	a.spans[i] = span{api.Range{Lo: 0, Hi: api.MaxDay}}
	back := a.ledger.Returns[i]
	r, found := a.receipt(back.Receipt)
	if !found || !basic.Counts(back.Known, back.Until, a.known) || !a.takes(r, back.Leaves) {
		return
	}
	days := span{back.Day}
	days.behind(r.Day)
	if days.empty() {
		return
	}
	for _, leaf := range back.Leaves {
		a.returns[slip{r.Source, leaf}] = i
		// The chest had the leaf again when it was lent again.
		for later := range a.of(api.Folio{Paper: r.Paper, Leaf: leaf}) {
			if later.Day > r.Day {
				days.upTo(later.Day)
			}
		}
	}
	a.tells[i], a.spans[i] = true, days
}

// receipt returns the receipt that counts and has a source.
func (a account) receipt(source int) (api.Receipt, bool) {
	for _, r := range a.receipts {
		if r.Source == source {
			return r, true
		}
	}
	return api.Receipt{}, false
}

// takes reports whether a receipt has all these leaves, and none of them is back yet.
func (a account) takes(r api.Receipt, leaves []int) bool {
	for _, leaf := range leaves {
		if _, back := a.returns[slip{r.Source, leaf}]; back || !slices.Contains(r.Leaves, leaf) {
			return false
		}
	}
	return true
}

// of yields the receipts of a leaf that count.
func (a account) of(f api.Folio) iter.Seq[api.Receipt] {
	return func(yield func(api.Receipt) bool) {
		for _, r := range a.receipts {
			if r.Paper == f.Paper && slices.Contains(r.Leaves, f.Leaf) && !yield(r) {
				return
			}
		}
	}
}

// stay is where a leaf is at the end of a day: with a person (0: in the chest), unless it has a return by then. The return's index is -1 if it has none.
type stay struct{ person, back int }

func (a account) stay(f api.Folio, day int) stay {
	s, latest := stay{back: -1}, -1
	for r := range a.of(f) {
		if r.Day > day || r.Day <= latest {
			continue
		}
		s, latest = stay{person: r.Borrower, back: -1}, r.Day
		if i, back := a.returns[slip{r.Source, f.Leaf}]; back {
			s.back = i
		}
	}
	return s
}

// narrowed returns the days of the returns by which sights are right, and false if there are none. Receipts have to agree.
func (a account) narrowed(sights []api.Sight) ([]span, bool) {
	spans := slices.Clone(a.spans)
	for _, s := range sights {
		at := a.stay(folioOf(s), s.Day)
		if s.Person != at.person && (s.Person != 0 || at.back < 0) {
			return nil, false
		}
		if at.back < 0 {
			continue
		}
		days := &spans[at.back]
		narrow := days.behind
		if s.Person == 0 {
			narrow = days.upTo
		}
		narrow(s.Day)
		if days.empty() {
			return nil, false
		}
	}
	return spans, true
}

// agree returns ErrDouble if two receipts are double.
func (a account) agree() api.Errno {
	_, _, found := a.double()
	return basic.Verdict(!found, api.ErrDouble)
}

// settle narrows the days of the returns by all sights that count, with ErrDouble or ErrClash if there are no true days.
func (a *account) settle() api.Errno {
	if e := a.agree(); e != api.OK {
		return e
	}
	spans, sound := a.narrowed(a.sights)
	if !sound {
		return api.ErrClash
	}
	a.spans = spans
	return api.OK
}
