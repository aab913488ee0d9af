package vellum_test

import (
	"fmt"
	"math/rand/v2"
	"slices"
	"strconv"
	"strings"
	"testing"

	"parvise/api"
	"parvise/vellum"
)

func item(parish, no int) api.Item { return api.Item{Parish: parish, No: no} }

// record returns one of the kind 5, of the day 10, that is known from the day 12 on.
func record(parish, no int, text string) api.Record {
	return api.Record{At: item(parish, no), Kind: 5, Day: 10, Known: 12, Text: text}
}

// withdrawal returns the record of a parish that withdraws an earlier one of its records.
func withdrawal(parish, no, other, known int) api.Record {
	return api.Record{At: item(parish, no), Known: known, Of: item(parish, other)}
}

func records(l ...api.Record) []api.Record { return l }

func book(l ...api.Record) api.Book { return api.Book{Records: l} }

func sheets(l ...api.Sheet) api.Vellum { return api.Vellum{Sheets: l} }

// example is the record of the chapter's examples.
func example() api.Record { return record(2, 0, "a key") }

// line returns the line of a text on a sheet.
func line(sheet, index int, text string) string {
	return strconv.Itoa(plainSum(sheet, index, text)) + " " + text + "\n"
}

// lines returns the lines of texts, from the index 0 on.
func lines(sheet int, texts ...string) string {
	all := ""
	for i, text := range texts {
		all += line(sheet, i, text)
	}
	return all
}

// wet returns what is on a sheet as wet ink.
func wet(s api.Sheet) api.Sheet { return api.Sheet{No: s.No, Wet: s.Dry + s.Wet} }

// smeared returns a text one byte of which is a `~`.
func smeared(text string, at int) string { return text[:at] + "~" + text[at+1:] }

// full returns a log with as many records as may be, of all parishes, each with a text that is as long as may be.
func full() []api.Record {
	var l []api.Record
	for i := range api.MaxRecords {
		r := record(i%api.MaxParishes, i/api.MaxParishes, strings.Repeat("}", api.MaxText))
		r.Kind, r.Day, r.Known = api.MaxKind, api.MaxDay, api.MaxDay
		l = append(l, r)
	}
	return l
}

// inked returns vellum on which a log was written, one record after the other, all of it wet but the first sheet's beginning.
func inked(t *testing.T, log []api.Record) api.Vellum {
	t.Helper()
	v := vellum.New()
	for i, r := range log {
		var e api.Errno
		if v, _, e = vellum.Write(v, log[:i], r); e != api.OK {
			t.Fatalf("Write of %v: %v", r, e)
		}
	}
	return v
}

// turned returns vellum with a new sheet, which begins with a log.
func turned(t *testing.T, v api.Vellum, log []api.Record) api.Vellum {
	t.Helper()
	v, e := vellum.Turn(v, log)
	if e != api.OK {
		t.Fatalf("Turn: %v", e)
	}
	return v
}

// parishWith returns the parish with a number that has just written its own records, and those of others.
func parishWith(t *testing.T, me int, log ...api.Record) api.Parish {
	t.Helper()
	p, e := vellum.NewParish(me)
	if e != api.OK {
		t.Fatalf("NewParish: %v", e)
	}
	p.Vellum, p.Log = inked(t, log), log
	return p
}

// ownLog returns records of one parish.
func ownLog(parish, many int) []api.Record {
	var l []api.Record
	for i := range many {
		l = append(l, record(parish, i, strconv.Itoa(i)))
	}
	return l
}

// clonedParish returns a parish that may be changed.
func clonedParish(p api.Parish) api.Parish {
	p.Log, p.Vellum.Sheets = slices.Clone(p.Log), slices.Clone(p.Vellum.Sheets)
	return p
}

// none is an empty list.
var none []int

// result is what a call returned: all its values.
type result []any

func results(values ...any) result { return values }

// expect compares what a call returned by its print, in which nil and empty lists are the same.
func expect(t *testing.T, call string, got result, want ...any) {
	t.Helper()
	if fmt.Sprintf("%+v", got) != fmt.Sprintf("%+v", result(want)) {
		t.Errorf("%s: %+v; expected %+v", call, got, want)
	}
}

// verdict is OK if something is so, and otherwise an error.
func verdict(ok bool, e api.Errno) api.Errno {
	if ok {
		return api.OK
	}
	return e
}

// isPrefix reports whether a log begins with others.
func isPrefix(l, log []api.Record) bool {
	return len(l) <= len(log) && slices.Equal(l, log[:len(l)])
}

// someText returns a text that may be a record's; some look like others that are on sheets.
func someText(r *rand.Rand) string {
	if r.IntN(4) == 0 {
		return []string{"", " ", "begun", "sheet 1 0", "0 0 1 0 0 0 0 ", "132 ", "1 2 3", "  x  "}[r.IntN(8)]
	}
	text := make([]byte, r.IntN(12))
	for i := range text {
		text[i] = byte(0x20 + r.IntN(0x7D-0x20+1))
	}
	return string(text)
}

// someRecord returns a valid record of a parish with a number.
func someRecord(r *rand.Rand, parish, no int) api.Record {
	if no > 0 && r.IntN(3) == 0 {
		return withdrawal(parish, no, r.IntN(no), r.IntN(6))
	}
	return api.Record{At: item(parish, no), Kind: 1 + r.IntN(api.MaxKind), Day: r.IntN(30), Known: r.IntN(6), Text: someText(r)}
}

// someNext returns a record that may be written after those of a log.
func someNext(r *rand.Rand, log []api.Record, parishes int) api.Record {
	parish := r.IntN(parishes)
	return someRecord(r, parish, ofParish(log, parish))
}

// someLog returns a log of so many records.
func someLog(r *rand.Rand, many int) []api.Record {
	var log []api.Record
	parishes := 1 + r.IntN(api.MaxParishes)
	for range many {
		log = append(log, someNext(r, log, parishes))
	}
	return log
}

// ofParish returns how many records a parish has in a log.
func ofParish(log []api.Record, parish int) int {
	n := 0
	for _, r := range log {
		if r.At.Parish == parish {
			n++
		}
	}
	return n
}

// somePicks returns some picks; some of them are less than 0.
func somePicks(r *rand.Rand) []int {
	l := make([]int, r.IntN(13))
	for i := range l {
		l[i] = r.IntN(4000) - 1000
	}
	return l
}

// eachSeed calls a function many times, with random numbers.
func eachSeed(t *testing.T, seed uint64, many int, f func(r *rand.Rand)) {
	t.Helper()
	for i := range many {
		f(rand.New(rand.NewPCG(seed, uint64(i))))
		if t.Failed() {
			t.Fatalf("the %d-th time", i)
		}
	}
}
