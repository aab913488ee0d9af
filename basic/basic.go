// Package basic is what all layers need: parishes, items, sources, persons, papers, days, times, answers, and which of several errors is due.
package basic

import (
	"cmp"

	"parvise/api"
)

// Within reports whether a number is from lo to hi.
func Within(n, lo, hi int) bool { return lo <= n && n <= hi }

// Modulo returns the number from 0 to n - 1 that differs from a by a multiple of n.
func Modulo(a, n int) int {
	rest := a % n
	if rest < 0 {
		rest += n
	}
	return rest
}

// IsParish reports whether a number is a parish.
func IsParish(n int) bool { return Within(n, 0, api.MaxParishes-1) }

// IsItem reports whether an item is valid.
func IsItem(at api.Item) bool { return IsParish(at.Parish) && Within(at.No, 0, api.MaxNo) }

// CompareItems orders items.
func CompareItems(a, b api.Item) int {
	return cmp.Or(cmp.Compare(a.Parish, b.Parish), cmp.Compare(a.No, b.No))
}

// IsSource reports whether a number is a source.
func IsSource(n int) bool { return Within(n, 1, api.MaxSource) }

// IsPerson reports whether a number is a person.
func IsPerson(n int) bool { return Within(n, 1, api.MaxPerson) }

// IsPaper reports whether a number is a paper.
func IsPaper(n int) bool { return Within(n, 1, api.MaxPaper) }

// IsDay reports whether a number is a day.
func IsDay(day int) bool { return Within(day, 0, api.MaxDay) }

// AreDays reports whether a range is one of days.
func AreDays(r api.Range) bool { return Within(r.Lo, 0, r.Hi) && IsDay(r.Hi) }

// AreTimes reports whether Known and Until are times.
func AreTimes(known, until int) bool {
	return IsDay(known) && (until == 0 || Within(until, known+1, api.MaxDay))
}

// Counts reports whether what has these times counts, as known on a day.
func Counts(known, until, day int) bool {
	return known <= day && (until == 0 || until > day)
}

// First returns the first error that is one.
func First(errors ...api.Errno) api.Errno { return cmp.Or(errors...) }

// Verdict is OK if something is so, and otherwise an error.
func Verdict(ok bool, e api.Errno) api.Errno {
	if ok {
		return api.OK
	}
	return e
}

// CheckDays returns ErrDay if one of the days is none.
func CheckDays(days ...int) api.Errno {
	return Verdict(AreAll(days, IsDay), api.ErrDay)
}

// CheckPaper returns ErrArg if a number is no paper.
func CheckPaper(n int) api.Errno { return Verdict(IsPaper(n), api.ErrArg) }

// Answer tells of something that may be so, or may not be so, or both.
func Answer(can, cannot bool) int {
	switch {
	case can && cannot:
		return api.Maybe
	case can:
		return api.Yes
	}
	return api.No
}
