package vestry

import (
	"cmp"
	"iter"
	"slices"
	"strings"

	"parvise/api"
	"parvise/basic"
	"parvise/chest"
	"parvise/keys"
	"parvise/vellum"
)

const maxRecordDigits = 9 // of a number in the Text of a record

// Deeds returns the deeds of a book.
func Deeds(b api.Book) ([]api.Deed, api.Errno) {
	if e := vellum.Check(b); e != api.OK {
		return nil, e
	}
	return said(b, api.RecDeed, entry.deed), api.OK
}

// Ledger returns the receipts, returns and sights of a book.
func Ledger(b api.Book) (api.Ledger, api.Errno) {
	if e := vellum.Check(b); e != api.OK {
		return api.Ledger{}, e
	}
	return api.Ledger{
		Receipts: said(b, api.RecReceipt, entry.receipt),
		Returns:  said(b, api.RecReturn, entry.comeBack),
		Sights:   said(b, api.RecSight, entry.sight),
	}, api.OK
}

// Glimpses returns the glimpses of a book.
func Glimpses(b api.Book) ([]api.Glimpse, api.Errno) {
	if e := vellum.Check(b); e != api.OK {
		return nil, e
	}
	return said(b, api.RecGlimpse, entry.glimpse), api.OK
}

// Openings returns the openings of a book, as known on a day.
func Openings(b api.Book, known int) ([]api.Opening, api.Errno) {
	deeds, e := Deeds(b)
	if e := basic.First(e, basic.CheckDays(known)); e != api.OK {
		return nil, e
	}
	var l []api.Opening
	for _, o := range said(b, api.RecOpening, entry.opening) {
		if !basic.Counts(o.Known, o.Until, known) {
			continue
		}
		lawful, e := keys.Lawful(deeds, o.persons, o.Day, known)
		o.Lawful = lawful
		if e != api.OK {
			o.Lawful = api.Maybe
		}
		if more, e := chest.With(l, o.Opening); e == api.OK {
			l = more
		}
	}
	return l, api.OK
}

// Account returns the loans, returns, askings, payments and sureties of a book.
func Account(b api.Book) (api.Account, api.Errno) {
	if e := vellum.Check(b); e != api.OK {
		return api.Account{}, e
	}
	return api.Account{
		Lents:    said(b, api.RecLent, entry.lent),
		Backs:    said(b, api.RecBack, entry.back),
		Askings:  said(b, api.RecAsking, entry.asking),
		Payments: said(b, api.RecPayment, entry.payment),
		Sureties: said(b, api.RecSurety, entry.surety),
	}, api.OK
}

// said returns what the records of a kind say, as far as it is valid.
func said[T any](b api.Book, kind int, read func(entry) (T, api.Errno)) []T {
	var l []T
	for x := range entries(b, kind) {
		if v, e := read(x); e == api.OK {
			l = append(l, v)
		}
	}
	return l
}

// entries yields the records of a kind whose texts have the numbers of such a record.
func entries(b api.Book, kind int) iter.Seq[entry] {
	ends := endsOf(b)
	return func(yield func(entry) bool) {
		for _, r := range b.Records {
			if r.Kind != kind {
				continue
			}
			numbers, ok := basic.Numbers(strings.Split(r.Text, " "), maxRecordDigits)
			if !ok || len(numbers) != manyOf[kind] {
				continue
			}
			if !yield(entryOf(r, ends[r.At], numbers)) {
				return
			}
		}
	}
}

// endsOf returns the Known of the first record that withdraws an item, for each one that is withdrawn.
func endsOf(b api.Book) map[api.Item]int {
	ends := map[api.Item]int{}
	for _, r := range slices.Backward(b.Records) {
		if r.Kind == api.RecWithdraw {
			ends[r.Of] = r.Known
		}
	}
	return ends
}

// entryOf returns a record that has numbers, and counts up to the day before until.
func entryOf(r api.Record, until int, numbers []int) entry {
	return entry{Record: r, until: until, source: 10000*r.At.Parish + r.At.No + 1, n: numbers}
}

// behindZeros returns the numbers that are not 0; ErrArg if one that is comes behind them.
func behindZeros(numbers ...int) ([]int, api.Errno) {
	first := slices.IndexFunc(numbers, func(n int) bool { return n != 0 })
	if first < 0 {
		return nil, api.OK
	}
	l := slices.Clone(numbers[first:])
	return l, basic.Verdict(!slices.Contains(l, 0), api.ErrArg)
}

// leavesFrom returns so many leaves, from the first one on; ErrArg if no receipt has so many.
func leavesFrom(first, many int) ([]int, api.Errno) {
	if !basic.Within(many, 1, api.MaxFolios) {
		return nil, api.ErrArg
	}
	var l []int
	for i := range many {
		l = append(l, first+i)
	}
	return l, api.OK
}

// checkOpeners returns ErrArg unless persons rise.
func checkOpeners(persons []int) api.Errno {
	return basic.Verdict(basic.AreAll(persons, basic.IsPerson) && basic.AreRising(persons, cmp.Compare), api.ErrArg)
}
