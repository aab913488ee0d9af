package vestry_test

import (
	"fmt"
	"math"
	"testing"

	"parvise/api"
	"parvise/vestry"
)

// rec is a record that is the No-th one of the parish 2.
func rec(no, kind, day, known int, text string) api.Record {
	return api.Record{At: api.Item{Parish: 2, No: no}, Kind: kind, Day: day, Known: known, Text: text}
}

// gone withdraws a record of the parish 2.
func gone(no, known, of int) api.Record {
	return api.Record{At: api.Item{Parish: 2, No: no}, Known: known, Of: api.Item{Parish: 2, No: of}}
}

func bookOf(l ...api.Record) api.Book { return api.Book{Records: l} }

// all is all that a book says, as known on a day.
func all(b api.Book, known int) result {
	deeds, e1 := vestry.Deeds(b)
	ledger, e2 := vestry.Ledger(b)
	glimpses, e3 := vestry.Glimpses(b)
	openings, e4 := vestry.Openings(b, known)
	account, e5 := vestry.Account(b)
	return results(deeds, ledger, glimpses, openings, account, e1, e2, e3, e4, e5)
}

// allSaid is what all returns without an error, if a book says just this.
func allSaid(v any) result {
	var deeds []api.Deed
	var l api.Ledger
	var glimpses []api.Glimpse
	var openings []api.Opening
	var a api.Account
	switch v := v.(type) {
	case api.Deed:
		deeds = append(deeds, v)
	case api.Receipt:
		l.Receipts = append(l.Receipts, v)
	case api.Return:
		l.Returns = append(l.Returns, v)
	case api.Sight:
		l.Sights = append(l.Sights, v)
	case api.Glimpse:
		glimpses = append(glimpses, v)
	case api.Opening:
		openings = append(openings, v)
	case api.Lent:
		a.Lents = append(a.Lents, v)
	case api.Back:
		a.Backs = append(a.Backs, v)
	case api.Asking:
		a.Askings = append(a.Askings, v)
	case api.Payment:
		a.Payments = append(a.Payments, v)
	case api.Surety:
		a.Sureties = append(a.Sureties, v)
	}
	return results(deeds, l, glimpses, openings, a, api.OK, api.OK, api.OK, api.OK, api.OK)
}

func leaves(first, many int) []int {
	var l []int
	for i := range many {
		l = append(l, first+i)
	}
	return l
}

func span(lo, hi int) api.Range { return api.Range{Lo: lo, Hi: hi} }

// The records of these tables are the first one of the parish 2, with the Day 10 and the Known 20.

func TestP102Says(t *testing.T) {
	for _, c := range []struct {
		kind int
		text string
		want any
	}{
		{api.RecDeed, "3 1 7 15 900", api.Deed{At: api.Item{Parish: 2}, Kind: 3, Lock: 1, Person: 7, Day: span(15, 900), Known: 20}},
		{api.RecDeed, "1 0 99 0 100000", api.Deed{At: api.Item{Parish: 2}, Kind: 1, Person: 99, Day: span(0, 100000), Known: 20}},
		{api.RecReceipt, "50 4 2 3", api.Receipt{Source: 20001, Borrower: 50, Paper: 4, Leaves: []int{2, 3, 4}, Day: 10, Known: 20}},
		{api.RecReceipt, "50 4 1 30", api.Receipt{Source: 20001, Borrower: 50, Paper: 4, Leaves: leaves(1, 30), Day: 10, Known: 20}},
		{api.RecReceipt, "50 4 30 1", api.Receipt{Source: 20001, Borrower: 50, Paper: 4, Leaves: []int{30}, Day: 10, Known: 20}},
		{api.RecReturn, "99999 6 2 2 5 7", api.Return{Source: 20001, Receipt: 99999, Person: 6, Leaves: []int{2, 3}, Day: span(5, 7), Known: 20}},
		{api.RecSight, "0 4 30", api.Sight{Source: 20001, Paper: 4, Leaf: 30, Day: 10, Known: 20}},
		{api.RecSight, "99 999 1", api.Sight{Source: 20001, Person: 99, Paper: 999, Leaf: 1, Day: 10, Known: 20}},
		{api.RecGlimpse, "24 0 0 0", api.Glimpse{Source: 20001, Hole: 24, Known: 20}},
		{api.RecGlimpse, "1 0 0 7", api.Glimpse{Source: 20001, Hole: 1, Marks: []int{7}, Known: 20}},
		{api.RecGlimpse, "1 0 7 9", api.Glimpse{Source: 20001, Hole: 1, Marks: []int{7, 9}, Known: 20}},
		{api.RecGlimpse, "1 5 7 999", api.Glimpse{Source: 20001, Hole: 1, Marks: []int{5, 7, 999}, Known: 20}},
		{api.RecOpening, "1 12 4 5 99 0 0 0 0", api.Opening{Source: 20001, Register: 1, Day: 10, Through: 12, Known: 20}},
		{api.RecOpening, "2 10 1 2 3 0 7 8 9", api.Opening{Source: 20001, Register: 2, Day: 10, Through: 10, In: []int{7}, Out: []int{8, 9}, Known: 20}},
		{api.RecOpening, "2 100000 1 2 3 7 9 0 8", api.Opening{Source: 20001, Register: 2, Day: 10, Through: 100000, In: []int{7, 9}, Out: []int{8}, Known: 20}},
		{api.RecLent, "50 4 10 200", api.Lent{Source: 20001, Borrower: 50, Paper: 4, Day: 10, Due: 10, Leaves: 200, Known: 20}},
		{api.RecBack, "7 200 0 20", api.Back{Source: 20001, Loan: 7, Leaves: 200, Day: span(0, 20), Known: 20}},
		{api.RecAsking, "7", api.Asking{Source: 20001, Loan: 7, Day: 10, Known: 20}},
		{api.RecPayment, "7 1000000", api.Payment{Source: 20001, Loan: 7, Pence: 1000000, Known: 20}},
		{api.RecSurety, "7 99 0", api.Surety{Source: 20001, Loan: 7, Person: 99, Known: 20}},
	} {
		expect(t, fmt.Sprint("what a record says: ", c.kind, " ", c.text), all(bookOf(rec(0, c.kind, 10, 20, c.text)), 50), allSaid(c.want)...)
		for _, text := range []string{" " + c.text, c.text + " ", c.text + " 1", "0" + c.text, "-" + c.text, "+" + c.text, "x" + c.text, c.text + "x", c.text + "\t", "#" + c.text, "~", "", "1", "1 1", "1 2 3 4 5 6 7 8 9 10"} {
			r := rec(0, c.kind, 10, 20, text)
			if text == "1" && c.kind == api.RecAsking || text == "1 1" && c.kind == api.RecPayment || text == "~" || text == c.text+"\t" {
				continue // a text of this kind, or of no record
			}
			expect(t, fmt.Sprintf("what a record says: %d %q", c.kind, text), all(bookOf(r), 50), allSaid(nil)...)
		}
		for kind := 12; kind <= api.MaxKind; kind++ {
			expect(t, fmt.Sprint("what a record of another kind says: ", kind, c.text), all(bookOf(rec(0, kind, 10, 20, c.text)), 50), allSaid(nil)...)
		}
	}
}

func TestP102SaysNothing(t *testing.T) {
	for kind, texts := range map[int][]string{
		api.RecDeed: {
			"0 0 7 15 16", "7 0 7 15 16", "1 1 7 15 16", "1 0 0 15 16", "1 0 100 15 16", "3 0 7 15 16", "3 4 7 15 16", "3 1 7 16 15", "3 1 7 15 100001", "3 1 7 15 1000000000", "3  1 7 15 16", "3 1 07 15 16", "3 1 7 15",
		},
		api.RecReceipt: {
			"0 4 2 3", "100 4 2 3", "50 0 2 3", "50 1000 2 3", "50 4 0 3", "50 4 2 0", "50 4 2 31", "50 4 2 30", "50 4 31 1", "50 4 999999999 30", "50 4 2 1000000000", "50 4 2 999999999",
		},
		api.RecReturn: {
			"0 6 2 2 5 7", "100000 6 2 2 5 7", "9 0 2 2 5 7", "9 100 2 2 5 7", "9 6 0 2 5 7", "9 6 2 0 5 7", "9 6 2 30 5 7", "9 6 1 31 5 7", "9 6 2 2 7 5", "9 6 2 2 5 100001",
		},
		api.RecSight:   {"100 4 1", "0 0 1", "0 1000 1", "0 4 0", "0 4 31"},
		api.RecGlimpse: {"0 0 0 7", "25 0 0 7", "1 7 0 0", "1 0 7 0", "1 5 0 7", "1 5 7 0", "1 7 5 9", "1 7 7 9", "1 0 9 7", "1 0 0 1000"},
		api.RecOpening: {
			"0 12 4 5 6 0 0 0 0", "3 12 4 5 6 0 0 0 0", "1 9 4 5 6 0 0 0 0", "1 100001 4 5 6 0 0 0 0", "1 12 0 5 6 0 0 0 0", "1 12 4 4 6 0 0 0 0", "1 12 4 6 6 0 0 0 0", "1 12 4 6 5 0 0 0 0", "1 12 4 5 100 0 0 0 0", "1 12 5 4 6 0 0 0 0",
			"1 12 4 5 6 7 0 0 0", "1 12 4 5 6 0 0 7 0", "1 12 4 5 6 7 7 0 0", "1 12 4 5 6 8 7 0 0", "1 12 4 5 6 0 0 8 7", "1 12 4 5 6 0 7 0 7", "1 12 4 5 6 7 8 8 9", "1 12 4 5 6 0 1000 0 0", "1 12 4 5 6 0 0 0 1000",
		},
		api.RecLent:    {"0 4 10 5", "100 4 10 5", "50 0 10 5", "50 1000 10 5", "50 4 9 5", "50 4 100001 5", "50 4 10 0", "50 4 10 201"},
		api.RecBack:    {"0 5 0 20", "100000 5 0 20", "7 0 0 20", "7 201 0 20", "7 5 20 19", "7 5 0 21"},
		api.RecAsking:  {"0", "100000"},
		api.RecPayment: {"0 5", "100000 5", "7 0", "7 1000001"},
		api.RecSurety:  {"0 9 5", "100000 9 5", "7 0 5", "7 100 5", "7 9 1000001"},
	} {
		for _, text := range texts {
			expect(t, fmt.Sprint("what a record says: ", kind, " ", text), all(bookOf(rec(0, kind, 10, 20, text)), 50), allSaid(nil)...)
		}
	}
	// An asking of a day behind that on which it is known.
	expect(t, "what an early asking says", all(bookOf(rec(0, api.RecAsking, 21, 20, "7")), 50), allSaid(nil)...)
	expect(t, "what an asking says", all(bookOf(rec(0, api.RecAsking, 20, 20, "7")), 50), allSaid(api.Asking{Source: 20001, Loan: 7, Day: 20, Known: 20})...)
}

// TestP102Until withdraws records.
func TestP102Until(t *testing.T) {
	asking := func(no, until int) api.Asking {
		return api.Asking{Source: 20001 + no, Loan: 7, Day: 10, Known: 20, Until: until}
	}
	first := rec(0, api.RecAsking, 10, 20, "7")
	for _, c := range []struct {
		name string
		b    api.Book
		want []api.Asking
	}{
		{"not withdrawn", bookOf(first), []api.Asking{asking(0, 0)}},
		{"withdrawn", bookOf(first, gone(1, 21, 0)), []api.Asking{asking(0, 21)}},
		{"withdrawn at once", bookOf(first, gone(1, 20, 0)), nil},
		{"withdrawn ahead of its day", bookOf(first, gone(1, 5, 0)), nil},
		{"withdrawn on the day 0", bookOf(first, gone(1, 0, 0)), []api.Asking{asking(0, 0)}},
		{"withdrawn twice", bookOf(first, gone(1, 30, 0), gone(2, 25, 0)), []api.Asking{asking(0, 30)}},
		{"withdrawn twice, the first time in vain", bookOf(first, gone(1, 5, 0), gone(2, 25, 0)), nil},
		{"withdrawn, which is withdrawn", bookOf(first, gone(1, 30, 0), gone(2, 25, 1)), []api.Asking{asking(0, 30)}},
		{"the second one withdrawn", bookOf(first, rec(1, api.RecAsking, 10, 20, "7"), gone(2, 30, 1)), []api.Asking{asking(0, 0), asking(1, 30)}},
		{"all kinds withdrawn", bookOf(rec(0, 12, 1, 1, "x"), rec(1, api.RecAsking, 10, 20, "7"), gone(2, 30, 0), gone(3, 40, 1)), []api.Asking{asking(1, 40)}},
	} {
		a, e := vestry.Account(c.b)
		expect(t, c.name, results(a, e), api.Account{Askings: c.want}, api.OK)
	}
	// Each kind has its own Until.
	for kind, text := range map[int]string{
		api.RecDeed: "3 1 7 15 900", api.RecReceipt: "50 4 2 3", api.RecReturn: "9 6 2 2 5 7", api.RecSight: "0 4 30", api.RecGlimpse: "1 0 0 7", api.RecOpening: "2 10 1 2 3 0 7 8 9",
		api.RecLent: "50 4 10 200", api.RecBack: "7 200 0 20", api.RecAsking: "7", api.RecPayment: "7 10", api.RecSurety: "7 99 0",
	} {
		r := rec(0, kind, 10, 20, text)
		for _, until := range []int{21, 100000} {
			got, want := all(bookOf(r, gone(1, until, 0)), 20), all(bookOf(r), 20)
			expect(t, fmt.Sprint("what a record says: ", kind, ", until ", until), got, withUntil(want, until)...)
		}
		for _, until := range []int{20, 1} {
			expect(t, fmt.Sprint("what a record says: ", kind, ", until ", until), all(bookOf(r, gone(1, until, 0)), 20), allSaid(nil)...)
		}
	}
}

// withUntil puts an Until into all that is said.
func withUntil(said result, until int) result {
	deeds, l, glimpses, openings, a := said[0].([]api.Deed), said[1].(api.Ledger), said[2].([]api.Glimpse), said[3].([]api.Opening), said[4].(api.Account)
	for i := range deeds {
		deeds[i].Until = until
	}
	for i := range l.Receipts {
		l.Receipts[i].Until = until
	}
	for i := range l.Returns {
		l.Returns[i].Until = until
	}
	for i := range l.Sights {
		l.Sights[i].Until = until
	}
	for i := range glimpses {
		glimpses[i].Until = until
	}
	for i := range openings {
		openings[i].Until = until
	}
	for i := range a.Lents {
		a.Lents[i].Until = until
	}
	for i := range a.Backs {
		a.Backs[i].Until = until
	}
	for i := range a.Askings {
		a.Askings[i].Until = until
	}
	for i := range a.Payments {
		a.Payments[i].Until = until
	}
	for i := range a.Sureties {
		a.Sureties[i].Until = until
	}
	return append(results(deeds, l, glimpses, openings, a), said[5:]...)
}

// TestP102Sources has records of several parishes.
func TestP102Sources(t *testing.T) {
	at := func(parish, no, kind int, text string) api.Record {
		return api.Record{At: api.Item{Parish: parish, No: no}, Kind: kind, Day: 1, Known: 2, Text: text}
	}
	b := bookOf(at(0, 0, api.RecAsking, "7"), at(0, 1, api.RecDeed, "1 0 5 1 1"), at(0, 2, api.RecAsking, "8"), at(1, 0, 12, "7"), at(1, 1, api.RecAsking, "9"), at(5, 0, api.RecDeed, "1 0 6 1 1"), at(5, 1, api.RecAsking, "10"))
	a, e := vestry.Account(b)
	expect(t, "Account", results(a, e), api.Account{Askings: []api.Asking{{Source: 1, Loan: 7, Day: 1, Known: 2}, {Source: 3, Loan: 8, Day: 1, Known: 2}, {Source: 10002, Loan: 9, Day: 1, Known: 2}, {Source: 50002, Loan: 10, Day: 1, Known: 2}}}, api.OK)
	deeds, e := vestry.Deeds(b)
	expect(t, "Deeds", results(deeds, e), []api.Deed{{At: api.Item{No: 1}, Kind: 1, Person: 5, Day: span(1, 1), Known: 2}, {At: api.Item{Parish: 5}, Kind: 1, Person: 6, Day: span(1, 1), Known: 2}}, api.OK)
}

// sworn are deeds by which 1, 2 and 3 are in office from the day 1 on, and have the keys from the day 5 on, as known from the day 8 on.
func sworn() []api.Record {
	return []api.Record{
		rec(0, api.RecDeed, 0, 8, "1 0 1 1 1"), rec(1, api.RecDeed, 0, 8, "1 0 2 1 1"), rec(2, api.RecDeed, 0, 8, "1 0 3 1 1"),
		rec(3, api.RecDeed, 0, 8, "3 1 1 5 5"), rec(4, api.RecDeed, 0, 8, "3 2 2 5 5"), rec(5, api.RecDeed, 0, 8, "3 3 3 5 9"),
	}
}

func TestP102Openings(t *testing.T) {
	open := func(no, day, known int, text string) api.Record { return rec(no, api.RecOpening, day, known, text) }
	said := func(no, register, day, through, lawful, known, until int) api.Opening {
		return api.Opening{Source: 20001 + no, Register: register, Day: day, Through: through, Lawful: lawful, Known: known, Until: until}
	}
	for _, c := range []struct {
		name  string
		more  []api.Record
		known int
		want  []api.Opening
	}{
		{"not known", []api.Record{open(6, 9, 20, "1 9 1 2 3 0 0 0 0")}, 19, nil},
		{"lawful", []api.Record{open(6, 9, 20, "1 9 1 2 3 0 0 0 0")}, 20, []api.Opening{said(6, 1, 9, 9, api.Yes, 20, 0)}},
		{"perhaps lawful", []api.Record{open(6, 8, 20, "1 9 1 2 3 0 0 0 0")}, 20, []api.Opening{said(6, 1, 8, 9, api.Maybe, 20, 0)}},
		{"not lawful", []api.Record{open(6, 4, 20, "1 9 1 2 3 0 0 0 0")}, 20, []api.Opening{said(6, 1, 4, 9, api.No, 20, 0)}},
		{"others", []api.Record{open(6, 9, 20, "1 9 1 2 4 0 0 0 0")}, 20, []api.Opening{said(6, 1, 9, 9, api.No, 20, 0)}},
		{"before deeds are known", []api.Record{open(6, 9, 5, "1 9 1 2 3 0 0 0 0")}, 7, []api.Opening{said(6, 1, 9, 9, api.No, 5, 0)}},
		{"when deeds are known", []api.Record{open(6, 9, 5, "1 9 1 2 3 0 0 0 0")}, 8, []api.Opening{said(6, 1, 9, 9, api.Yes, 5, 0)}},
		{"the last day", []api.Record{open(6, 9, 20, "1 9 1 2 3 0 0 0 0"), gone(7, 30, 6)}, 29, []api.Opening{said(6, 1, 9, 9, api.Yes, 20, 30)}},
		{"ended", []api.Record{open(6, 9, 20, "1 9 1 2 3 0 0 0 0"), gone(7, 30, 6)}, 30, nil},
		{"two of a register", []api.Record{open(6, 9, 20, "1 15 1 2 3 0 0 0 0"), open(7, 16, 20, "1 16 1 2 3 0 0 0 0")}, 20, []api.Opening{said(6, 1, 9, 15, api.Yes, 20, 0), said(7, 1, 16, 16, api.Yes, 20, 0)}},
		{"two of a register on a day", []api.Record{open(6, 9, 20, "1 15 1 2 3 0 0 0 0"), open(7, 15, 20, "1 16 1 2 3 0 0 0 0"), open(8, 16, 20, "1 16 1 2 3 0 0 0 0")}, 20, []api.Opening{said(6, 1, 9, 15, api.Yes, 20, 0), said(8, 1, 16, 16, api.Yes, 20, 0)}},
		{"two registers", []api.Record{open(6, 9, 20, "1 15 1 2 3 0 0 0 0"), open(7, 12, 20, "2 16 1 2 3 0 0 0 0")}, 20, []api.Opening{said(6, 1, 9, 15, api.Yes, 20, 0), said(7, 2, 12, 16, api.Yes, 20, 0)}},
		{"the first one not known", []api.Record{open(6, 9, 21, "1 15 1 2 3 0 0 0 0"), open(7, 15, 20, "1 16 1 2 3 0 0 0 0")}, 20, []api.Opening{said(7, 1, 15, 16, api.Yes, 20, 0)}},
		{"the first one known", []api.Record{open(6, 9, 21, "1 15 1 2 3 0 0 0 0"), open(7, 15, 20, "1 16 1 2 3 0 0 0 0")}, 21, []api.Opening{said(6, 1, 9, 15, api.Yes, 21, 0)}},
		{"the first one ended", []api.Record{open(6, 9, 20, "1 15 1 2 3 0 0 0 0"), open(7, 15, 20, "1 16 1 2 3 0 0 0 0"), gone(8, 40, 6)}, 40, []api.Opening{said(7, 1, 15, 16, api.Yes, 20, 0)}},
		{"contradictory deeds", []api.Record{open(6, 9, 20, "1 9 1 2 3 0 0 0 0"), rec(7, api.RecDeed, 0, 25, "4 1 7 2 3")}, 25, []api.Opening{said(6, 1, 9, 9, api.Maybe, 20, 0)}},
		{"contradictory deeds, not known", []api.Record{open(6, 9, 20, "1 9 1 2 3 0 0 0 0"), rec(7, api.RecDeed, 0, 25, "4 1 7 2 3")}, 24, []api.Opening{said(6, 1, 9, 9, api.Yes, 20, 0)}},
		{"contradictory deeds, withdrawn", []api.Record{open(6, 9, 20, "1 9 1 2 3 0 0 0 0"), rec(7, api.RecDeed, 0, 25, "4 1 7 2 3"), gone(8, 30, 7)}, 30, []api.Opening{said(6, 1, 9, 9, api.Yes, 20, 0)}},
		{"a key lent", []api.Record{open(6, 9, 20, "1 9 1 2 3 0 0 0 0"), rec(7, api.RecDeed, 0, 25, "4 1 7 6 9")}, 25, []api.Opening{said(6, 1, 9, 9, api.No, 20, 0)}},
	} {
		got, e := vestry.Openings(bookOf(append(sworn(), c.more...)...), c.known)
		expect(t, c.name, results(got, e), c.want, api.OK)
	}
}

func TestP102BookErrors(t *testing.T) {
	for name, b := range map[string]api.Book{
		"out of order": bookOf(rec(1, 1, 1, 1, ""), rec(0, 1, 1, 1, "")), "with a gap": bookOf(rec(1, 1, 1, 1, "")), "with a record twice": bookOf(rec(0, 1, 1, 1, ""), rec(0, 1, 1, 1, "")),
		"with a day that is none": bookOf(rec(0, 1, -1, 1, "")), "with a kind that is none": bookOf(rec(0, 61, 1, 1, "")), "with a text that is none": bookOf(rec(0, 1, 1, 1, "~")),
	} {
		for _, known := range []int{0, -1, 100001} {
			expect(t, "a book "+name, all(b, known), []api.Deed{}, api.Ledger{}, []api.Glimpse{}, []api.Opening{}, api.Account{}, api.ErrBook, api.ErrBook, api.ErrBook, api.ErrBook, api.ErrBook)
		}
	}
	for _, known := range []int{-1, 100001, math.MinInt, math.MaxInt} {
		for _, b := range []api.Book{{}, {Records: []api.Record{}}, bookOf(sworn()...)} {
			expect(t, fmt.Sprint("Openings as known on ", known), results(vestry.Openings(b, known)), []api.Opening{}, api.ErrDay)
		}
	}
	for _, known := range []int{0, 100000} {
		for _, b := range []api.Book{{}, {Records: []api.Record{}}} {
			expect(t, "a book without records", all(b, known), allSaid(nil)...)
		}
	}
}
