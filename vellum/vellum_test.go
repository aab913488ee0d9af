package vellum_test

import (
	"fmt"
	"math"
	"slices"
	"strings"
	"testing"

	"parvise/api"
	"parvise/vellum"
)

const exampleRecord = "2 0 5 10 12 0 0 a key"

func TestP81Examples(t *testing.T) {
	expect(t, "Encode of R", results(vellum.Encode(example())), exampleRecord, api.OK)
	expect(t, "Line(1, 0)", results(vellum.Line(1, 0, "")), "132 \n", api.OK)
	expect(t, "Line(1, 2)", results(vellum.Line(1, 2, "")), "166 \n", api.OK)
	expect(t, "Line(0, 0, a)", results(vellum.Line(0, 0, "a")), "", api.ErrSheet)
	expect(t, "Line(1, 0, ~)", results(vellum.Line(1, 0, "~")), "", api.ErrText)
	v := vellum.New()
	expect(t, "New", results(v), sheets(api.Sheet{No: 1, Dry: lines(1, "sheet 1 0", "begun")}))

	v, log, e := vellum.Write(v, nil, example())
	ink := line(1, 2, exampleRecord)
	expect(t, "Write", results(v, log, e), sheets(api.Sheet{No: 1, Dry: lines(1, "sheet 1 0", "begun"), Wet: ink}), records(example()), api.OK)
	expect(t, "all ink gone", results(vellum.Open(vellum.Flood(v, []int{0, 0, 0}))), vellum.New(), none)
	first := sheets(api.Sheet{No: 1, Dry: lines(1, "sheet 1 1", exampleRecord, "begun")})
	expect(t, "all ink left", results(vellum.Open(vellum.Flood(v, []int{len(ink), 0, 0}))), first, records(example()))
	expect(t, "a byte smeared", results(vellum.Flood(v, []int{len(ink), 1, 3})), sheets(api.Sheet{No: 1, Dry: lines(1, "sheet 1 0", "begun") + smeared(ink, 3)}))
	expect(t, "a line smeared", results(vellum.Open(vellum.Flood(v, []int{len(ink), 1, 3}))), vellum.New(), none)

	v = turned(t, v, log)
	begun := lines(2, "sheet 2 1", exampleRecord, "begun")
	expect(t, "Turn", results(v), sheets(api.Sheet{No: 1, Dry: lines(1, "sheet 1 0", "begun"), Wet: ink}, api.Sheet{No: 2, Wet: begun}))
	second := sheets(api.Sheet{No: 2, Dry: begun})
	expect(t, "the second sheet left", results(vellum.Open(vellum.Flood(v, []int{0, 0, 0, len(begun), 0, 0}))), second, records(example()))
	expect(t, "Scrape ahead of Dry", results(vellum.Scrape(v)), v)
	expect(t, "Scrape behind Dry", results(vellum.Scrape(vellum.Dry(v))), second)
}

func TestP81ExampleLetters(t *testing.T) {
	two, e := vellum.NewParish(2)
	expect(t, "NewParish", results(two, e), api.Parish{Me: 2, Vellum: vellum.New()}, api.OK)
	r := example()
	r.At = item(7, 7)
	two, noted, e := vellum.Note(two, r)
	expect(t, "Note", results(noted, two.Log, e), example(), records(example()), api.OK)
	two, letter, e := vellum.Send(two, 3)
	expect(t, "Send", results(letter, e), api.Letter{From: 2, To: 3, Records: records(example())}, api.OK)
	three, _ := vellum.NewParish(3)
	three, back, e := vellum.Receive(three, letter)
	expect(t, "Receive by 3", results(three.Log, three.Taken, back, e), records(example()), [6]int{2: 1}, []api.Letter{{From: 3, To: 2, First: 0, Seen: 1, Records: records(example())}}, api.OK)
	two, again, e := vellum.Receive(two, back[0])
	expect(t, "Receive by 2", results(two.Log, two.Heard, two.Taken, again, e), records(example()), [6]int{3: 1}, [6]int{3: 1}, []api.Letter{{From: 2, To: 3, First: 1, Seen: 1}}, api.OK)
	three, last, e := vellum.Receive(three, again[0])
	expect(t, "Receive by 3 again", results(three.Log, three.Heard, three.Taken, last, e), records(example()), [6]int{2: 1}, [6]int{2: 1}, none, api.OK)
	four, _ := vellum.NewParish(4)
	early := api.Letter{From: 2, To: 4, First: 1, Records: records(record(2, 1, "x"))}
	four, back, e = vellum.Receive(four, early)
	expect(t, "Receive by 4", results(four.Log, four.Taken, back, e), none, [6]int{}, []api.Letter{{From: 4, To: 2}}, api.OK)
}

func TestP81Line(t *testing.T) {
	for _, c := range []struct {
		sheet, line int
		text, want  string
	}{
		{7, 3, "a key", "948 a key\n"}, {76, 0, "", "9957 \n"}, {1, 0, " ", "4038  \n"}, {1, 0, "sheet 1 0", "2765 sheet 1 0\n"}, {1, 1, "begun", "4758 begun\n"},
		{1, 2, exampleRecord, "1934 " + exampleRecord + "\n"}, {99999, 9999, strings.Repeat("}", 240), "9016 " + strings.Repeat("}", 240) + "\n"},
	} {
		expect(t, fmt.Sprint("Line ", c), results(vellum.Line(c.sheet, c.line, c.text)), c.want, api.OK)
	}
	// One of a thousand sums or so has fewer digits.
	for sheet := range 9973 {
		text := fmt.Sprint(sheet)
		expect(t, "Line of "+text, results(vellum.Line(1+sheet, sheet, text)), line(1+sheet, sheet, text), api.OK)
	}
}

func TestP81Begin(t *testing.T) {
	for _, log := range [][]api.Record{nil, {}, records(example()), records(record(3, 0, ""), record(0, 0, " "), withdrawal(3, 1, 0, 9)), full()} {
		for _, sheet := range []int{1, 2, 99999} {
			expect(t, fmt.Sprint("Begin ", sheet, log), results(vellum.Begin(sheet, log)), plainSheet(sheet, len(log), log), api.OK)
		}
	}
	expect(t, "Begin(2, R)", results(vellum.Begin(2, records(example()))), "4159 sheet 2 1\n3405 2 0 5 10 12 0 0 a key\n3760 begun\n", api.OK)
}

func TestP81Encode(t *testing.T) {
	for text, r := range map[string]api.Record{
		"0 0 1 0 0 0 0 ":                         {Kind: 1},
		"5 9999 60 100000 100000 0 0 0 0":        {At: item(5, 9999), Kind: 60, Day: 100000, Known: 100000, Text: "0 0"},
		"1 3 0 0 7 1 2 ":                         withdrawal(1, 3, 2, 7),
		"0 1 0 0 0 0 0 ":                         withdrawal(0, 1, 0, 0),
		"1 2 3 4 5 0 0  two  spaces ":            {At: item(1, 2), Kind: 3, Day: 4, Known: 5, Text: " two  spaces "},
		"1 2 3 4 5 0 0 !}":                       {At: item(1, 2), Kind: 3, Day: 4, Known: 5, Text: "!}"},
		"1 2 3 4 5 0 0 -1":                       {At: item(1, 2), Kind: 3, Day: 4, Known: 5, Text: "-1"},
		plainText(record(1, 2, full()[0].Text)):  record(1, 2, full()[0].Text),
		"5 9999 0 0 100000 5 9998 ":              withdrawal(5, 9999, 9998, 100000),
		"0 0 7 0 0 0 0 sheet 1 0":                {Kind: 7, Text: "sheet 1 0"},
		"0 0 7 0 0 0 0 " + "0 0 7 0 0 0 0 begun": {Kind: 7, Text: "0 0 7 0 0 0 0 begun"},
	} {
		expect(t, "Encode of "+text, results(vellum.Encode(r)), text, api.OK)
		expect(t, "Decode of "+text, results(vellum.Decode(text)), r, api.OK)
	}
}

// TestP81Scan has sheets some of whose lines are wrong.
func TestP81Scan(t *testing.T) {
	a, b, c := record(1, 0, "a"), record(4, 0, "b"), record(1, 1, "c")
	of := func(log ...api.Record) []api.Record { return log }
	begun := lines(3, "sheet 3 1", plainText(a), "begun")
	both := begun + line(3, 3, plainText(b))
	for _, x := range []struct {
		name, text string
		want       []api.Record
		whole      bool
	}{
		{"nothing", "", nil, false},
		{"a beginning", begun, of(a), true},
		{"a beginning without its last byte", begun[:len(begun)-1], nil, false},
		{"a beginning with another byte ahead", " " + begun, nil, false},
		{"no records", lines(3, "sheet 3 0", "begun"), nil, true},
		{"records behind none", lines(3, "sheet 3 0", "begun", plainText(a), plainText(b)), of(a, b), true},
		{"a record behind", both, of(a, b), true},
		{"part of a record behind", both[:len(both)-1], of(a), true},
		{"more behind", both + line(3, 4, plainText(c)), of(a, b, c), true},
		{"part of a line behind all", both + line(3, 4, plainText(c)) + "12 1", of(a, b, c), true},
		{"an empty line behind", begun + "\n" + line(3, 3, plainText(b)), of(a), true},
		{"a wrong index", begun + line(3, 4, plainText(b)), of(a), true},
		{"a wrong index, and then a right line", begun + line(3, 4, plainText(b)) + line(3, 4, plainText(b)), of(a), true},
		{"a line of another sheet", begun + line(2, 3, plainText(b)), of(a), true},
		{"a record twice", begun + line(3, 3, plainText(a)), of(a), true},
		{"a record with a gap", begun + line(3, 3, plainText(record(1, 2, "c"))), of(a), true},
		{"a record with a gap, and a right one", begun + line(3, 3, plainText(record(1, 2, "c"))) + line(3, 4, plainText(c)), of(a), true},
		{"a record that is not valid", begun + line(3, 3, "1 1 61 0 0 0 0 "), of(a), true},
		{"a text of no record", begun + line(3, 3, "begun"), of(a), true},
		{"a zero ahead", begun + "0" + line(3, 3, plainText(b)), of(a), true},
		{"a carriage return", strings.ReplaceAll(begun, "\n", "\r\n"), nil, false},
		{"another sheet's number", lines(3, "sheet 2 1", plainText(a), "begun"), nil, false},
		{"another sheet's sums", lines(2, "sheet 3 1", plainText(a), "begun"), nil, false},
		{"another sheet", lines(2, "sheet 2 1", plainText(a), "begun"), nil, false},
		{"too few records", lines(3, "sheet 3 2", plainText(a), "begun"), nil, false},
		{"too many records", lines(3, "sheet 3 1", plainText(a), plainText(b), "begun"), nil, false},
		{"none told", lines(3, "sheet 3 ", plainText(a), "begun"), nil, false},
		{"just a number", lines(3, "1", plainText(a), "begun"), nil, false},
		{"999999 told", lines(3, "sheet 3 999999", "begun"), nil, false},
		{"less than none told", lines(3, "sheet 3 -1", "begun"), nil, false},
		{"61 told", lines(3, "sheet 3 61", "begun"), nil, false},
		{"a zero ahead of the number", lines(3, "sheet 3 01", plainText(a), "begun"), nil, false},
		{"more behind the number", lines(3, "sheet 3 1 ", plainText(a), "begun"), nil, false},
		{"two spaces", lines(3, "sheet  3 1", plainText(a), "begun"), nil, false},
		{"no end of the beginning", lines(3, "sheet 3 1", plainText(a)), nil, false},
		{"another end", lines(3, "sheet 3 1", plainText(a), "begun "), nil, false},
		{"the end twice", lines(3, "sheet 3 1", plainText(a), "begun", "begun", plainText(b)), of(a), true},
		{"a beginning that is no log", lines(3, "sheet 3 1", plainText(c), "begun"), nil, false},
		{"a beginning with one record twice", lines(3, "sheet 3 2", plainText(a), plainText(a), "begun"), nil, false},
		{"a beginning with a wrong record", lines(3, "sheet 3 1", "1 0 61 0 0 0 0 ", "begun"), nil, false},
		{"a beginning out of order", lines(3, "sheet 3 2", plainText(c), plainText(a), "begun"), nil, false},
	} {
		for _, dry := range []int{0, len(x.text) / 2, len(x.text)} {
			s := api.Sheet{No: 3, Dry: x.text[:dry], Wet: x.text[dry:]}
			expect(t, "Scan of "+x.name, results(vellum.Scan(s)), x.want, x.whole)
		}
	}
	for no, whole := range map[int]bool{1: true, 99999: true, 0: false, 100000: false, -1: false} {
		s := api.Sheet{No: no, Dry: lines(no, fmt.Sprintf("sheet %d 0", no), "begun")}
		expect(t, fmt.Sprint("Scan of the sheet ", no), results(vellum.Scan(s)), none, whole)
	}
	log := full()
	expect(t, "Scan of what is full", results(vellum.Scan(api.Sheet{No: 8, Wet: plainSheet(8, 60, log)})), log, true)
	expect(t, "Scan of what is written full", results(vellum.Scan(api.Sheet{No: 8, Wet: plainSheet(8, 7, log)})), log, true)
	more := append(full(), record(0, 10, ""))
	expect(t, "Scan of 61 records", results(vellum.Scan(api.Sheet{No: 8, Wet: plainSheet(8, 7, more)})), log, true)
	expect(t, "Scan of a beginning with 61", results(vellum.Scan(api.Sheet{No: 8, Wet: plainSheet(8, 61, more)})), none, false)
}

func TestP81Sorted(t *testing.T) {
	a, b, c, d := record(1, 0, "a"), record(0, 0, "b"), withdrawal(1, 1, 0, 3), record(0, 1, "d")
	expect(t, "Sorted", results(vellum.Sorted(records(a, b, c, d))), book(b, d, a, c), api.OK)
	expect(t, "Sorted of none", results(vellum.Sorted(nil)), book(), api.OK)
	sorted, e := vellum.Sorted(full())
	expect(t, "Sorted of what is full", results(len(sorted.Records), vellum.Check(sorted), e), 60, api.OK, api.OK)
	for i, r := range sorted.Records {
		expect(t, "its items", results(r.At), item(i/10, i%10))
	}
}

func TestP81Add(t *testing.T) {
	a, b, c := record(1, 0, "a"), record(3, 0, "b"), record(3, 1, "c")
	l := book(a, b, c)
	for _, x := range []struct {
		r    api.Record
		want api.Book
		e    api.Errno
	}{
		{record(0, 0, "d"), book(record(0, 0, "d"), a, b, c), api.OK},
		{record(1, 1, "d"), book(a, record(1, 1, "d"), b, c), api.OK},
		{record(2, 0, "d"), book(a, record(2, 0, "d"), b, c), api.OK},
		{record(3, 2, "d"), book(a, b, c, record(3, 2, "d")), api.OK},
		{withdrawal(3, 2, 0, 5), book(a, b, c, withdrawal(3, 2, 0, 5)), api.OK},
		{a, l, api.OK}, {b, l, api.OK}, {c, l, api.OK},
		{record(1, 0, "x"), book(), api.ErrDiffer}, {withdrawal(3, 1, 0, 5), book(), api.ErrDiffer},
		{record(0, 1, "d"), book(), api.ErrGap}, {record(1, 2, "d"), book(), api.ErrGap}, {record(3, 3, "d"), book(), api.ErrGap}, {record(5, 9999, "d"), book(), api.ErrGap},
	} {
		expect(t, fmt.Sprint("Add of ", x.r), results(vellum.Add(l, x.r)), x.want, x.e)
	}
	expect(t, "Add to nothing", results(vellum.Add(book(), a)), book(a), api.OK)
	sixty, _ := vellum.Sorted(full())
	expect(t, "Add of a 61st record", results(vellum.Add(sixty, record(2, 10, ""))), book(), api.ErrLong)
	expect(t, "Add of one that is there", results(vellum.Add(sixty, sixty.Records[31])), sixty, api.OK)
	less, _ := vellum.Sorted(full()[:59])
	expect(t, "Add of a 60th record", results(vellum.Add(less, full()[59])), sixty, api.OK)
}

func TestP81Join(t *testing.T) {
	a, b, c, d := record(1, 0, "a"), record(1, 1, "b"), record(3, 0, "c"), record(0, 0, "d")
	other := record(1, 1, "other")
	for _, x := range []struct {
		l, m, want api.Book
		e          api.Errno
	}{
		{book(), book(), book(), api.OK},
		{book(), book(a, b), book(a, b), api.OK},
		{book(a), book(a, b), book(a, b), api.OK},
		{book(a, b), book(d, a, c), book(d, a, b, c), api.OK},
		{book(a, b), book(d, c), book(d, a, b, c), api.OK},
		{book(a, b), book(a, other), book(), api.ErrDiffer},
		{book(d, a, b, c), book(a, other), book(), api.ErrDiffer},
	} {
		expect(t, fmt.Sprint("Join ", x.l, x.m), results(vellum.Join(x.l, x.m)), x.want, x.e)
		expect(t, fmt.Sprint("Join ", x.m, x.l), results(vellum.Join(x.m, x.l)), x.want, x.e)
	}
	left, right := book(ownLog(0, 31)...), book(ownLog(1, 29)...)
	all := book(append(ownLog(0, 31), ownLog(1, 29)...)...)
	expect(t, "Join of 60", results(vellum.Join(left, right)), all, api.OK)
	expect(t, "Join of 60 and 60", results(vellum.Join(all, all)), all, api.OK)
	expect(t, "Join of 61", results(vellum.Join(left, book(ownLog(1, 30)...))), book(), api.ErrLong)
	expect(t, "Join of 60 and one more", results(vellum.Join(all, book(a))), book(), api.ErrDiffer)
	expect(t, "Join of 60 and one of another parish", results(vellum.Join(all, book(c))), book(), api.ErrLong)
}

func TestP81Standing(t *testing.T) {
	// 1 withdraws 0; 2 withdraws 1, so that 0 stands again; 4 withdraws 3; 5 withdraws the 2, and 6 the 5.
	at := func(no, known int) api.Record {
		r := record(2, no, "x")
		r.Known = known
		return r
	}
	b := book(at(0, 1), withdrawal(2, 1, 0, 3), withdrawal(2, 2, 1, 5), at(3, 4), withdrawal(2, 4, 3, 2), withdrawal(2, 5, 2, 7), withdrawal(2, 6, 5, 9))
	for known, want := range map[int][]api.Record{
		0: nil, 1: {at(0, 1)}, 2: {at(0, 1)}, 3: nil, 4: nil, 5: {at(0, 1)}, 6: {at(0, 1)}, 7: nil, 8: nil, 9: {at(0, 1)}, 100000: {at(0, 1)},
	} {
		expect(t, fmt.Sprint("Standing ", known), results(vellum.Standing(b, known)), want, api.OK)
	}
	// One item of two parishes; one that is withdrawn twice.
	b = book(record(1, 0, "a"), record(1, 1, "b"), record(2, 0, "c"), withdrawal(2, 1, 0, 20), withdrawal(2, 2, 0, 13), withdrawal(2, 3, 2, 14))
	for known, want := range map[int][]api.Record{
		11: nil, 12: {record(1, 0, "a"), record(1, 1, "b"), record(2, 0, "c")}, 13: {record(1, 0, "a"), record(1, 1, "b")},
		14: {record(1, 0, "a"), record(1, 1, "b"), record(2, 0, "c")}, 20: {record(1, 0, "a"), record(1, 1, "b")},
	} {
		expect(t, fmt.Sprint("Standing ", known), results(vellum.Standing(b, known)), want, api.OK)
	}
	expect(t, "Standing of nothing", results(vellum.Standing(book(), 5)), none, api.OK)
}

func TestP81Write(t *testing.T) {
	a, b, c := record(1, 0, "a"), record(4, 0, "b"), record(1, 1, "c")
	v := inked(t, records(a, b))
	expect(t, "Write of two", results(v), sheets(api.Sheet{No: 1, Dry: plainSheet(1, 0, nil), Wet: line(1, 2, plainText(a)) + line(1, 3, plainText(b))}))
	for _, r := range records(a, b) {
		expect(t, "Write of one that is there", results(vellum.Write(v, records(a, b), r)), v, records(a, b), api.OK)
	}
	v = turned(t, vellum.Dry(v), records(a, b))
	more, log, e := vellum.Write(v, records(a, b), c)
	want := sheets(v.Sheets[0], api.Sheet{No: 2, Wet: plainSheet(2, 2, records(a, b, c))})
	expect(t, "Write on the second sheet", results(more, log, e), want, records(a, b, c), api.OK)
	expect(t, "Write on the second sheet, again", results(vellum.Write(more, log, b)), want, records(a, b, c), api.OK)
	// The ink that is there may be dry up to any byte.
	whole := plainSheet(7, 1, records(a, b))
	for dry := range len(whole) + 1 {
		s := api.Sheet{No: 7, Dry: whole[:dry], Wet: whole[dry:]}
		want := api.Sheet{No: 7, Dry: whole[:dry], Wet: whole[dry:] + line(7, 4, plainText(c))}
		expect(t, "Write behind ink", results(vellum.Write(sheets(s), records(a, b), c)), sheets(want), records(a, b, c), api.OK)
	}
	log = full()
	v = inked(t, log)
	expect(t, "Write of the 60th record", results(v.Sheets), sheets(api.Sheet{No: 1, Dry: plainSheet(1, 0, nil), Wet: strings.TrimPrefix(plainSheet(1, 0, log), plainSheet(1, 0, nil))}).Sheets)
	expect(t, "Write of one of 60", results(vellum.Write(v, log, log[17])), v, log, api.OK)
	expect(t, "Write of a 61st record", results(vellum.Write(v, log, record(3, 10, ""))), api.Vellum{}, none, api.ErrLong)
}

func TestP81CheckVellum(t *testing.T) {
	a, b := record(1, 0, "a"), record(4, 0, "b")
	log := records(a, b)
	sheet := func(no, k, end int) api.Sheet { return api.Sheet{No: no, Dry: plainSheet(no, k, log[:end])} }
	for _, c := range []struct {
		name string
		v    api.Vellum
		has  bool
	}{
		{"one sheet", sheets(sheet(1, 0, 2)), true},
		{"one wet sheet", sheets(wet(sheet(1, 1, 2))), true},
		{"one sheet with a great number", sheets(sheet(99999, 2, 2)), true},
		{"four sheets", sheets(sheet(5, 0, 0), sheet(6, 0, 1), sheet(7, 1, 2), sheet(8, 2, 2)), true},
		{"four sheets with one beginning", sheets(sheet(5, 1, 1), sheet(6, 1, 1), sheet(7, 1, 1), sheet(8, 1, 2)), true},
		{"sheets up to the greatest number", sheets(sheet(99998, 1, 2), sheet(99999, 2, 2)), true},
		{"a dry sheet behind a wet one", sheets(wet(sheet(5, 1, 2)), sheet(6, 2, 2)), true},
		{"no sheets", sheets(), false},
		{"five sheets", sheets(sheet(5, 0, 0), sheet(6, 0, 1), sheet(7, 1, 2), sheet(8, 2, 2), sheet(9, 2, 2)), false},
		{"too few records", sheets(sheet(1, 0, 1)), false},
		{"the sheet 0", sheets(sheet(0, 1, 2)), false},
		{"the sheet 100000", sheets(sheet(100000, 1, 2)), false},
		{"a number that is left out", sheets(sheet(1, 1, 2), sheet(3, 2, 2)), false},
		{"one number twice", sheets(sheet(2, 1, 2), sheet(2, 2, 2)), false},
		{"numbers that fall", sheets(sheet(2, 1, 2), sheet(1, 2, 2)), false},
		{"numbers that wrap", sheets(sheet(math.MinInt, 1, 2), sheet(1, 2, 2)), false},
		{"a record that is left out", sheets(sheet(1, 0, 1), sheet(2, 2, 2)), false},
		{"a record that the next beginning lacks", sheets(sheet(1, 0, 2), sheet(2, 1, 2)), false},
		{"a beginning that is less than the one ahead", sheets(sheet(1, 2, 2), sheet(2, 1, 2)), false},
		{"a part of a line", sheets(api.Sheet{No: 1, Dry: plainSheet(1, 1, log), Wet: "x"}), false},
		{"a line too many", sheets(api.Sheet{No: 1, Dry: plainSheet(1, 1, log) + line(1, 4, "")}), false},
		{"a byte too few", sheets(api.Sheet{No: 1, Dry: strings.TrimSuffix(plainSheet(1, 1, log), "\n")}), false},
		{"a sheet without a beginning", sheets(sheet(1, 1, 2), api.Sheet{No: 2}), false},
	} {
		e := verdict(c.has, api.ErrVellum)
		expect(t, "CheckVellum of "+c.name, results(vellum.CheckVellum(c.v, log)), e)
		_, _, f := vellum.Write(c.v, log, a)
		expect(t, "Write of "+c.name, results(f), e)
		_, f = vellum.Turn(c.v, log)
		expect(t, "Turn of "+c.name, results(f == api.ErrVellum), !c.has)
	}
	expect(t, "CheckVellum of no log", results(vellum.CheckVellum(sheets(api.Sheet{No: 1, Dry: plainSheet(1, 0, records(record(1, 1, "")))}), records(record(1, 1, "")))), api.ErrVellum)
	more := append(full(), record(0, 10, ""))
	expect(t, "CheckVellum of 61 records", results(vellum.CheckVellum(sheets(api.Sheet{No: 1, Dry: plainSheet(1, 0, more)}), more)), api.ErrVellum)
	expect(t, "CheckVellum of New", results(vellum.CheckVellum(vellum.New(), nil)), api.OK)
}

func TestP81Dry(t *testing.T) {
	v := sheets(api.Sheet{No: 3, Dry: "a", Wet: "b\n"}, api.Sheet{No: -1, Wet: "c"}, api.Sheet{Dry: "d"}, api.Sheet{No: 3})
	expect(t, "Dry", results(vellum.Dry(v)), sheets(api.Sheet{No: 3, Dry: "ab\n"}, api.Sheet{No: -1, Dry: "c"}, api.Sheet{Dry: "d"}, api.Sheet{No: 3}))
	expect(t, "Dry of nothing", results(vellum.Dry(sheets())), sheets())
}

func TestP81Turn(t *testing.T) {
	log := records(record(1, 0, "a"), record(4, 0, "b"))
	v := inked(t, log)
	want := slices.Clone(v.Sheets)
	for no := 2; no <= 4; no++ {
		v = turned(t, v, log)
		want = append(want, api.Sheet{No: no, Wet: plainSheet(no, 2, log)})
		expect(t, "Turn", results(v), api.Vellum{Sheets: want})
	}
	expect(t, "Turn of four sheets", results(vellum.Turn(v, log)), api.Vellum{}, api.ErrLong)
	for no, e := range map[int]api.Errno{99998: api.OK, 99999: api.ErrLong} {
		_, got := vellum.Turn(sheets(api.Sheet{No: no, Dry: plainSheet(no, 2, log)}), log)
		expect(t, fmt.Sprint("Turn of the sheet ", no), results(got), e)
	}
}

func TestP81Scrape(t *testing.T) {
	sheet := func(no int) api.Sheet { return api.Sheet{No: no, Dry: plainSheet(no, 0, nil)} }
	half := func(no int) api.Sheet { return api.Sheet{No: no, Dry: sheet(no).Dry[:9], Wet: sheet(no).Dry[9:]} }
	more := func(no int) api.Sheet { return api.Sheet{No: no, Dry: sheet(no).Dry, Wet: "~"} }
	for _, c := range []struct {
		name string
		v    api.Vellum
		left int // the first one
	}{
		{"nothing", sheets(), 0},
		{"one", sheets(sheet(1)), 0},
		{"a wet one", sheets(wet(sheet(1))), 0},
		{"no dry ones", sheets(wet(sheet(1)), half(2), api.Sheet{}), 0},
		{"a dry one, and a wet one", sheets(sheet(1), wet(sheet(2))), 0},
		{"a dry one, and half a one", sheets(sheet(1), half(2)), 0},
		{"dry ones", sheets(sheet(1), sheet(2), sheet(3)), 2},
		{"one on which more is wet", sheets(sheet(1), more(2), half(3)), 1},
		{"ones whose numbers fall", sheets(sheet(3), sheet(2), wet(sheet(1))), 1},
		{"one without a right number", sheets(sheet(3), sheet(100000)), 0},
		{"seven", sheets(half(1), wet(sheet(7)), half(2), half(1), sheet(9), half(1), half(9)), 4},
	} {
		expect(t, "Scrape of "+c.name, results(vellum.Scrape(c.v)), api.Vellum{Sheets: c.v.Sheets[c.left:]})
	}
}

func TestP81Flood(t *testing.T) {
	v := sheets(api.Sheet{No: 3, Dry: "ab", Wet: "cde"}, api.Sheet{No: 9}, api.Sheet{No: -1, Dry: "x", Wet: "\nyz"})
	for _, c := range []struct {
		picks []int
		want  [3]string
	}{
		{nil, [3]string{"ab", "", "x"}},
		{[]int{0}, [3]string{"ab", "", "x"}},
		{[]int{1}, [3]string{"ab~", "", "x~"}},
		{[]int{2}, [3]string{"abcd", "", "x\ny"}},
		{[]int{3}, [3]string{"ab~de", "", "x~yz"}},
		{[]int{4}, [3]string{"ab", "", "x"}},
		{[]int{-1}, [3]string{"abcd~", "", "x\ny~"}},
		{[]int{-2}, [3]string{"abcd", "", "x\ny"}},
		{[]int{math.MinInt}, [3]string{"ab", "", "x"}},
		{[]int{math.MaxInt}, [3]string{"abc~e", "", "x\n~z"}},
		{[]int{3, 1, 2}, [3]string{"abcd~", "", "x\ny~"}},
		{[]int{3, 1, 4}, [3]string{"abc~e", "", "x\n~z"}},
		{[]int{2, 1, 4}, [3]string{"ab~d", "", "x~y"}},
		{[]int{3, 1, -1}, [3]string{"abcd~", "", "x\ny~"}},
		{[]int{3, 2, 1}, [3]string{"abcde", "", "x\nyz"}},
		{[]int{3, -1, 0}, [3]string{"ab~de", "", "x~yz"}},
		{[]int{0, 1, 1, 5, 1, 5, 2, 1, 1}, [3]string{"ab", "", "x\n~"}},
		{[]int{2, 1, 0, 9, 9, 9, 7, 3, 3, 8, 8, 8}, [3]string{"ab~d", "", "x~yz"}},
		{[]int{3, 0, 1, 1}, [3]string{"abcde", "", "x~"}},
		{[]int{3, 0, 1, 1, 1}, [3]string{"abcde", "", "x"}},
	} {
		want := sheets(api.Sheet{No: 3, Dry: c.want[0]}, api.Sheet{No: 9, Dry: c.want[1]}, api.Sheet{No: -1, Dry: c.want[2]})
		expect(t, fmt.Sprint("Flood with ", c.picks), results(vellum.Flood(v, c.picks)), want)
	}
	expect(t, "Flood of nothing", results(vellum.Flood(sheets(), []int{1})), sheets())
}

func TestP81Open(t *testing.T) {
	a, b := record(1, 0, "a"), record(4, 0, "b")
	sheet := func(no, k int, log ...api.Record) api.Sheet {
		return api.Sheet{No: no, Dry: plainSheet(no, k, log)}
	}
	for _, c := range []struct {
		name string
		v    api.Vellum
		no   int
		log  []api.Record
	}{
		{"nothing", sheets(), 1, nil},
		{"no sheet that is whole", sheets(api.Sheet{No: 4, Dry: "x"}, api.Sheet{No: 5}), 1, nil},
		{"one", sheets(sheet(4, 0, a, b)), 4, records(a, b)},
		{"a wet one", sheets(wet(sheet(4, 0, a, b))), 4, records(a, b)},
		{"two", sheets(sheet(4, 0, a), sheet(5, 1, a, b)), 5, records(a, b)},
		{"two, the greater one first", sheets(sheet(5, 1, a), sheet(4, 0, a, b)), 5, records(a)},
		{"two with one number", sheets(sheet(4, 0, a, b), sheet(4, 1, b)), 4, records(b)},
		{"three with one number, the last one not whole", sheets(sheet(4, 0, a, b), sheet(4, 1, b), api.Sheet{No: 4}), 4, records(b)},
		{"a greater one that is not whole", sheets(sheet(4, 0, a, b), sheet(5, 3, a)), 4, records(a, b)},
		{"a number that is too great", sheets(sheet(4, 0, a, b), sheet(100000, 0)), 4, records(a, b)},
		{"the greatest number", sheets(sheet(99999, 0, a), sheet(4, 0, a, b)), 99999, records(a)},
		{"a line that is wrong", sheets(api.Sheet{No: 7, Dry: plainSheet(7, 0, records(a)) + "~", Wet: line(7, 3, plainText(b))}), 7, records(a)},
		{"six", sheets(sheet(1, 0), sheet(2, 0), sheet(3, 0), sheet(4, 0), sheet(5, 0, a), sheet(2, 0, b)), 5, records(a)},
	} {
		want := sheets(api.Sheet{No: c.no, Dry: plainSheet(c.no, len(c.log), c.log)})
		expect(t, "Open of "+c.name, results(vellum.Open(c.v)), want, c.log)
	}
}
