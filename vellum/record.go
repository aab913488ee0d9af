package vellum

import (
	"slices"
	"strconv"
	"strings"

	"parvise/api"
	"parvise/basic"
)

const (
	firstByte   = 0x20
	lastByte    = 0x7D // so that no text has the `~` that a flood leaves
	textNumbers = 7    // with which the text of a record begins
	maxDigits   = 6
)

// wrongText is what is thrown by a text of the wrong form.
type wrongText struct{}

// must leaves the reading of a text, unless something is so.
func must(ok bool) {
	if !ok {
		panic(wrongText{})
	}
}

// CheckRecord reports whether a record is valid.
func CheckRecord(r api.Record) api.Errno {
	ok := basic.IsItem(r.At) && basic.Within(r.Kind, 0, api.MaxKind) &&
		basic.IsDay(r.Day) && basic.IsDay(r.Known) && isText(r.Text, api.MaxText) && isOfKind(r)
	return basic.Verdict(ok, api.ErrRecord)
}

// Encode writes a record as a text.
func Encode(r api.Record) (string, api.Errno) {
	if e := CheckRecord(r); e != api.OK {
		return "", e
	}
	return textOf(r), api.OK
}

// Decode reads a record.
func Decode(text string) (r api.Record, e api.Errno) {
	defer func() {
		if recover() != nil {
			r, e = api.Record{}, api.ErrText
		}
	}()
	return recordOf(text), api.OK
}

// textOf returns the text of a record.
func textOf(r api.Record) string {
	parish := strconv.Itoa(r.At.Parish)
	return basic.Phrase(parish, r.At.No, r.Kind, r.Day, r.Known, r.Of.Parish, r.Of.No) + " " + r.Text
}

// recordOf returns the valid record whose text this is; without one the reading is left.
func recordOf(text string) api.Record {
	parts := strings.SplitN(text, " ", textNumbers+1)
	must(len(parts) == textNumbers+1)
	n, ok := basic.Numbers(parts[:textNumbers], maxDigits)
	must(ok)
	r := api.Record{
		At:   api.Item{Parish: n[0], No: n[1]},
		Kind: n[2],
		Day:  n[3], Known: n[4],
		Of:   api.Item{Parish: n[5], No: n[6]},
		Text: parts[textNumbers],
	}
	must(CheckRecord(r) == api.OK)
	return r
}

// isText reports whether a text has at most so many bytes, and only those that may be written.
func isText(text string, most int) bool {
	return len(text) <= most && basic.AreAll([]byte(text), func(b byte) bool { return firstByte <= b && b <= lastByte })
}

// isOfKind reports whether a record names an earlier one of its parish, and says nothing else, if it withdraws it, and otherwise names none.
func isOfKind(r api.Record) bool {
	if r.Kind != api.RecWithdraw {
		return r.Of == api.Item{}
	}
	return r.Day == 0 && r.Text == "" && r.Of.Parish == r.At.Parish && basic.Within(r.Of.No, 0, r.At.No-1)
}

// isLog reports whether records were written one after the other.
func isLog(l []api.Record) bool {
	for i, r := range l {
		if !isNext(l[:i], r) {
			return false
		}
	}
	return true
}

// isNext reports whether a record may be written after those of a log.
func isNext(log []api.Record, r api.Record) bool {
	return len(log) < api.MaxRecords && CheckRecord(r) == api.OK && r.At.No == recordsOf(log, r.At.Parish)
}

// recordsOf returns how many records a parish has among others.
func recordsOf(l []api.Record, parish int) int {
	n := 0
	for _, r := range l {
		if r.At.Parish == parish {
			n++
		}
	}
	return n
}

// checkAdded returns the error of one more record, of a log or of a book. One that is there already has none.
func checkAdded(l []api.Record, r api.Record) api.Errno {
	if e := CheckRecord(r); e != api.OK {
		return e
	}
	at := slices.IndexFunc(l, func(other api.Record) bool { return other.At == r.At })
	switch {
	case at >= 0:
		return basic.Verdict(l[at] == r, api.ErrDiffer)
	case r.At.No > recordsOf(l, r.At.Parish):
		return api.ErrGap
	case len(l) == api.MaxRecords:
		return api.ErrLong
	}
	return api.OK
}

// added returns records with one more behind them, unless it is there already.
func added(l []api.Record, r api.Record) []api.Record {
	l = slices.Clone(l)
	if slices.Contains(l, r) {
		return l
	}
	return append(l, r)
}
