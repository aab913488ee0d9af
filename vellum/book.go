package vellum

import (
	"slices"

	"parvise/api"
	"parvise/basic"
)

// Check reports whether a book is valid.
func Check(b api.Book) api.Errno {
	ok := isLog(b.Records) && basic.AreRising(b.Records, byItem)
	return basic.Verdict(ok, api.ErrBook)
}

// Sorted returns the book of records that were written one after the other.
func Sorted(l []api.Record) (api.Book, api.Errno) {
	if !isLog(l) {
		return api.Book{}, api.ErrBook
	}
	return bookOf(l), api.OK
}

// Add returns a book with one more record.
func Add(b api.Book, r api.Record) (api.Book, api.Errno) {
	if e := basic.First(Check(b), checkAdded(b.Records, r)); e != api.OK {
		return api.Book{}, e
	}
	return bookOf(added(b.Records, r)), api.OK
}

// Join returns the records of both books.
func Join(a, b api.Book) (api.Book, api.Errno) {
	if e := basic.First(Check(a), Check(b)); e != api.OK {
		return api.Book{}, e
	}
	both := bookOf(slices.Concat(a.Records, b.Records))
	both.Records = slices.Compact(both.Records)
	// Those that are equal are gone: two of one item differ.
	if !basic.AreRising(both.Records, byItem) {
		return api.Book{}, api.ErrDiffer
	}
	if len(both.Records) > api.MaxRecords {
		return api.Book{}, api.ErrLong
	}
	return both, api.OK
}

// Standing returns the records that stand, as known on a day.
func Standing(b api.Book, known int) ([]api.Record, api.Errno) {
	if e := basic.First(Check(b), basic.CheckDays(known)); e != api.OK {
		return nil, e
	}
	gone := withdrawn(b, known)
	var standing []api.Record
	for _, r := range b.Records {
		if r.Kind != api.RecWithdraw && r.Known <= known && !gone[r.At] {
			standing = append(standing, r)
		}
	}
	return standing, api.OK
}

// withdrawn returns the items of the records that do not stand, as known on a day.
func withdrawn(b api.Book, known int) map[api.Item]bool {
	gone := map[api.Item]bool{}
	// From behind: only a later record can tell that one does not stand.
	for _, r := range slices.Backward(b.Records) {
		if r.Kind == api.RecWithdraw && r.Known <= known && !gone[r.At] {
			gone[r.Of] = true
		}
	}
	return gone
}

// bookOf returns records in the order of their items.
func bookOf(l []api.Record) api.Book {
	l = slices.Clone(l)
	slices.SortFunc(l, byItem)
	return api.Book{Records: l}
}

func byItem(a, b api.Record) int { return basic.CompareItems(a.At, b.At) }
