package vellum_test

import (
	"fmt"
	"math"
	"math/rand/v2"
	"slices"
	"strings"
	"testing"

	"parvise/api"
	"parvise/vellum"
)

// checkRecord expects that a record is valid, or not, for all that takes it alone.
func checkRecord(t *testing.T, name string, r api.Record, valid bool) {
	t.Helper()
	e := verdict(valid, api.ErrRecord)
	expect(t, "CheckRecord with "+name, results(vellum.CheckRecord(r)), e)
	text, f := vellum.Encode(r)
	expect(t, "Encode with "+name, results(f), e)
	if !valid {
		expect(t, "Encode with "+name, results(text), "")
		expect(t, "Decode with "+name, results(vellum.Decode(plainText(r))), api.Record{}, api.ErrText)
		expect(t, "Add with "+name, results(vellum.Add(book(), r)), book(), api.ErrRecord)
		expect(t, "Write with "+name, results(vellum.Write(vellum.New(), nil, r)), api.Vellum{}, none, api.ErrRecord)
	} else {
		expect(t, "Decode with "+name, results(vellum.Decode(text)), r, api.OK)
	}
}

func TestP81CheckRecord(t *testing.T) {
	for _, c := range []struct {
		field string
		n     int
		valid bool
	}{
		{"nothing", 0, true},
		{"Parish", 0, true}, {"Parish", 5, true}, {"Parish", 6, false}, {"Parish", -1, false}, {"Parish", math.MinInt, false},
		{"No", 0, true}, {"No", 9999, true}, {"No", 10000, false}, {"No", -1, false}, {"No", math.MaxInt, false},
		{"Kind", 1, true}, {"Kind", 60, true}, {"Kind", 61, false}, {"Kind", -1, false}, {"Kind", 0, false},
		{"Day", 0, true}, {"Day", 100000, true}, {"Day", 100001, false}, {"Day", -1, false},
		{"Known", 0, true}, {"Known", 100000, true}, {"Known", 100001, false}, {"Known", -1, false},
		{"OfParish", 1, false}, {"OfParish", 3, false}, {"OfParish", -1, false}, {"OfNo", 1, false}, {"OfNo", -1, false},
	} {
		r := record(3, 7, "x")
		fields := map[string]*int{"nothing": new(int), "Parish": &r.At.Parish, "No": &r.At.No, "Kind": &r.Kind, "Day": &r.Day, "Known": &r.Known, "OfParish": &r.Of.Parish, "OfNo": &r.Of.No}
		*fields[c.field] = c.n
		checkRecord(t, fmt.Sprint(c.field, " ", c.n), r, c.valid)
	}
	for _, c := range []struct {
		field string
		n     int
		valid bool
	}{
		{"nothing", 0, true},
		{"Parish", 0, false}, {"Parish", 4, false},
		{"No", 9999, true}, {"No", 10000, false}, {"No", 6, true}, {"No", 5, false}, {"No", 0, false},
		{"Kind", 1, false}, {"Kind", -1, false},
		{"Day", 1, false}, {"Day", -1, false},
		{"Known", 0, true}, {"Known", 100000, true}, {"Known", 100001, false}, {"Known", -1, false},
		{"OfParish", 2, false}, {"OfParish", 4, false},
		{"OfNo", 0, true}, {"OfNo", 6, true}, {"OfNo", 7, false}, {"OfNo", 8, false}, {"OfNo", -1, false}, {"OfNo", math.MinInt, false},
	} {
		r := withdrawal(3, 7, 5, 4)
		fields := map[string]*int{"nothing": new(int), "Parish": &r.At.Parish, "No": &r.At.No, "Kind": &r.Kind, "Day": &r.Day, "Known": &r.Known, "OfParish": &r.Of.Parish, "OfNo": &r.Of.No}
		*fields[c.field] = c.n
		checkRecord(t, fmt.Sprint("withdrawal with ", c.field, " ", c.n), r, c.valid)
	}
	r := withdrawal(3, 7, 5, 4)
	r.Text = " "
	checkRecord(t, "a withdrawal with a text", r, false)
	r = withdrawal(6, 7, 5, 4)
	checkRecord(t, "a withdrawal of no parish", r, false)
	checkRecord(t, "a withdrawal without an earlier record", withdrawal(3, 0, -1, 4), false)
	checkRecord(t, "nothing", api.Record{}, false)
}

func TestP81CheckRecordText(t *testing.T) {
	for b := range 256 {
		valid := 0x20 <= b && b <= 0x7D
		for _, text := range []string{string([]byte{byte(b)}), "ab" + string([]byte{byte(b)}), string([]byte{byte(b)}) + "ab"} {
			checkRecord(t, fmt.Sprintf("the text %q", text), record(3, 7, text), valid)
			_, e := vellum.Line(1, 0, text)
			expect(t, fmt.Sprintf("Line of %q", text), results(e), verdict(valid, api.ErrText))
		}
	}
	checkRecord(t, "no text", record(3, 7, ""), true)
	checkRecord(t, "160 bytes", record(3, 7, strings.Repeat(" ", 160)), true)
	checkRecord(t, "161 bytes", record(3, 7, strings.Repeat(" ", 161)), false)
}

func TestP81WrongTexts(t *testing.T) {
	for _, text := range []string{
		"", " ", "x", "2", "2 0 5 10 12 0", "2 0 5 10 12 0 ", "2 0 5 10 12 0 0", "2 0 5 10 12 0 a key", " 2 0 5 10 12 0 0 a key",
		"2  0 5 10 12 0 0 a key", "2 0 5 10 12 0  0 a key", "02 0 5 10 12 0 0 a key", "2 00 5 10 12 0 0 a key", "2 0 05 10 12 0 0 a key", "2 0 5 010 12 0 0 a key", "2 0 5 10 012 0 0 a key", "2 0 5 10 12 00 0 a key", "2 0 5 10 12 0 00 a key",
		"-2 0 5 10 12 0 0 a key", "2 -0 5 10 12 0 0 a key", "2 0 +5 10 12 0 0 a key", "2 0 5 1e1 12 0 0 a key", "2 0 5 1_0 12 0 0 a key", "2 0 5 10 12 0 0\ta key", "2\t0 5 10 12 0 0 a key", "2 0 5 10 12 0 -0 a key",
		"2 0 5 10 12 0 0 a~key", "2 0 5 10 12 0 0 a key\n", "2 0 5 10 12 0 0 a\x00key", "2 0 5 10 12 0 0 \x80", "2 0 5 10 12 0 0 é", "2 0 5 10 12 0 0 \x7e", "\n2 0 5 10 12 0 0 a key",
		"6 0 5 10 12 0 0 a key", "2 10000 5 10 12 0 0 a key", "2 0 61 10 12 0 0 a key", "2 0 5 100001 12 0 0 a key", "2 0 5 10 100001 0 0 a key", "2 0 5 10 12 1 0 a key", "2 0 5 10 12 0 1 a key",
		"99999999999999999999 0 5 10 12 0 0 a key", "18446744073709551616 0 5 10 12 0 0 a key", "2 18446744073709551617 5 10 12 0 0 a key", "\u0662 0 5 10 12 0 0 a key",
		"2 0 0 0 12 2 0 ", "2 1 0 0 12 2 1 ", "2 1 0 0 12 1 0 ", "2 1 0 1 12 2 0 ", "2 1 0 0 12 2 0 a", "2 1 0 0 12 2 0", "2 0 5 10 12 0 0 " + strings.Repeat("a", 161), strings.Repeat(" ", 100000), strings.Repeat("1", 100000),
	} {
		expect(t, fmt.Sprintf("Decode of %.60q", text), results(vellum.Decode(text)), api.Record{}, api.ErrText)
	}
}

func TestP81LineErrors(t *testing.T) {
	long := strings.Repeat("a", 241)
	for _, c := range []struct {
		sheet, line int
		text        string
		e           api.Errno
	}{
		{0, -1, "~", api.ErrSheet}, {100000, 0, "a", api.ErrSheet}, {-1, 10000, long, api.ErrSheet}, {math.MinInt, 0, "", api.ErrSheet}, {math.MaxInt, 0, "", api.ErrSheet},
		{1, -1, "~", api.ErrArg}, {99999, 10000, "a", api.ErrArg}, {1, 10000, long, api.ErrArg}, {1, math.MinInt, "", api.ErrArg}, {1, math.MaxInt, "", api.ErrArg},
		{1, 0, "~", api.ErrText}, {1, 9999, long, api.ErrText}, {1, 0, "\n", api.ErrText}, {1, 0, "a\x1f", api.ErrText}, {1, 0, "a\x7fa", api.ErrText}, {1, 0, "\xffa", api.ErrText},
	} {
		expect(t, fmt.Sprint("Line ", c), results(vellum.Line(c.sheet, c.line, c.text)), "", c.e)
	}
}

// noLogs returns lists of records that are no logs.
func noLogs() [][]api.Record {
	return [][]api.Record{
		{{}}, {record(1, 1, "")}, {record(1, 0, ""), record(1, 0, "")}, {record(1, 0, ""), record(1, 0, "x")}, {record(1, 0, ""), record(1, 2, "")}, {record(1, 1, ""), record(1, 0, "")},
		{record(1, 0, ""), record(6, 0, "")}, {record(1, 0, "~")}, {record(1, 0, ""), withdrawal(1, 1, 1, 0)}, append(full(), record(0, 10, "")), append(full(), api.Record{}), {record(-1, 0, "")}, {record(math.MaxInt, 0, "")},
	}
}

func TestP81NoLogs(t *testing.T) {
	for _, l := range noLogs() {
		expect(t, fmt.Sprint("Begin ", l), results(vellum.Begin(3, l)), "", api.ErrRecord)
		expect(t, fmt.Sprint("Begin of no sheet ", l), results(vellum.Begin(0, l)), "", api.ErrSheet)
		expect(t, fmt.Sprint("Sorted ", l), results(vellum.Sorted(l)), book(), api.ErrBook)
		v := sheets(api.Sheet{No: 3, Dry: plainSheet(3, len(l), l)})
		expect(t, fmt.Sprint("CheckVellum ", l), results(vellum.CheckVellum(v, l)), api.ErrVellum)
		expect(t, fmt.Sprint("CheckVellum of New, ", l), results(vellum.CheckVellum(vellum.New(), l)), api.ErrVellum)
		expect(t, fmt.Sprint("Write ", l), results(vellum.Write(v, l, api.Record{})), api.Vellum{}, none, api.ErrVellum)
		expect(t, fmt.Sprint("Turn ", l), results(vellum.Turn(v, l)), api.Vellum{}, api.ErrVellum)
	}
	expect(t, "Begin of the sheet 100000", results(vellum.Begin(100000, nil)), "", api.ErrSheet)
}

func TestP81NoBooks(t *testing.T) {
	wrong := []api.Book{book(record(1, 0, ""), record(0, 0, "")), book(record(1, 0, ""), record(2, 0, ""), record(1, 1, "")), book(full()...)}
	for _, l := range noLogs() {
		wrong = append(wrong, book(l...))
	}
	right := book(record(0, 0, "a"))
	for _, b := range wrong {
		expect(t, fmt.Sprint("Check ", b), results(vellum.Check(b)), api.ErrBook)
		expect(t, fmt.Sprint("Add ", b), results(vellum.Add(b, api.Record{})), book(), api.ErrBook)
		expect(t, fmt.Sprint("Join ", b), results(vellum.Join(b, right)), book(), api.ErrBook)
		expect(t, fmt.Sprint("Join with ", b), results(vellum.Join(book(record(0, 0, "b")), b)), book(), api.ErrBook)
		expect(t, fmt.Sprint("Standing ", b), results(vellum.Standing(b, -1)), none, api.ErrBook)
	}
	expect(t, "Check", results(vellum.Check(right)), api.OK)
	expect(t, "Check of nothing", results(vellum.Check(book())), api.OK)
	for known, e := range map[int]api.Errno{0: api.OK, 100000: api.OK, -1: api.ErrDay, 100001: api.ErrDay, math.MinInt: api.ErrDay, math.MaxInt: api.ErrDay} {
		_, got := vellum.Standing(right, known)
		expect(t, fmt.Sprint("Standing ", known), results(got), e)
	}
}

// TestP81AddOrder has records with two errors: the one that is named first is told.
func TestP81AddOrder(t *testing.T) {
	sixty, _ := vellum.Sorted(full())
	log := full()
	v := inked(t, log)
	for _, c := range []struct {
		name string
		r    api.Record
		e    api.Errno
	}{
		{"not valid, and another one's item", record(0, 0, "~"), api.ErrRecord},
		{"not valid, and a gap", record(0, 11, "~"), api.ErrRecord},
		{"not valid, and one too many", record(0, 10, "~"), api.ErrRecord},
		{"another one's item, and one too many", record(0, 9, "x"), api.ErrDiffer},
		{"a gap, and one too many", record(0, 11, "x"), api.ErrGap},
		{"one too many", record(0, 10, "x"), api.ErrLong},
	} {
		expect(t, "Add of "+c.name, results(vellum.Add(sixty, c.r)), book(), c.e)
		expect(t, "Write of "+c.name, results(vellum.Write(v, log, c.r)), api.Vellum{}, none, c.e)
		expect(t, "Write without vellum of "+c.name, results(vellum.Write(api.Vellum{}, log, c.r)), api.Vellum{}, none, api.ErrVellum)
	}
	// Of two books that are too long together, and differ, it is told that they differ.
	a, b := book(ownLog(0, 40)...), book(append(ownLog(0, 30), ownLog(1, 30)...)...)
	b.Records[20].Text = "x"
	expect(t, "Join of books that differ, and are too long", results(vellum.Join(a, b)), book(), api.ErrDiffer)
}

func TestP81CheckLetter(t *testing.T) {
	p := receiver(t, 3)
	few := ownLog(4, 6)
	for _, c := range []struct {
		name  string
		l     api.Letter
		valid bool
	}{
		{"nothing new", api.Letter{From: 4, To: 2}, true},
		{"all numbers as great as may be", api.Letter{From: 4, To: 2, First: 60, Seen: 60, Records: few}, true},
		{"from the first parish", api.Letter{From: 0, To: 2}, true},
		{"from the last parish", api.Letter{From: 5, To: 2}, true},
		{"from itself", api.Letter{From: 2, To: 2}, false},
		{"from no parish", api.Letter{From: 6, To: 2}, false},
		{"from less than none", api.Letter{From: -1, To: 2}, false},
		{"from none at all", api.Letter{From: math.MinInt, To: 2}, false},
		{"to another one", api.Letter{From: 4, To: 3}, false},
		{"to its sender", api.Letter{From: 4, To: 4}, false},
		{"to no parish", api.Letter{From: 4, To: 6}, false},
		{"first of too many", api.Letter{From: 4, To: 2, First: 61}, false},
		{"first of less than none", api.Letter{From: 4, To: 2, First: -1}, false},
		{"too many seen", api.Letter{From: 4, To: 2, Seen: 61}, false},
		{"less than none seen", api.Letter{From: 4, To: 2, Seen: -1}, false},
		{"too many records", api.Letter{From: 4, To: 2, Records: ownLog(4, 7)}, false},
		{"too many records that are too late", api.Letter{From: 4, To: 2, First: 9, Records: ownLog(4, 7)}, false},
		{"a record that is not valid", api.Letter{From: 4, To: 2, Records: records(few[0], record(4, 1, "~"))}, false},
		{"a record that is not valid, too late", api.Letter{From: 4, To: 2, First: 9, Records: records(record(4, -1, ""))}, false},
		{"a record that differs, and one that is not valid", api.Letter{From: 4, To: 2, Records: records(record(4, 0, "x"), record(4, -1, ""))}, false},
	} {
		got, _, e := vellum.Receive(p, c.l)
		expect(t, "Receive of a letter of "+c.name, results(e), verdict(c.valid, api.ErrLetter))
		if !c.valid {
			expect(t, "Receive of a letter of "+c.name, results(got), api.Parish{})
		}
	}
}

// wrongParishes returns parishes that are not valid.
func wrongParishes(t *testing.T) map[string]api.Parish {
	all := map[string]api.Parish{"nothing": {}}
	add := func(name string, change func(p *api.Parish)) {
		p := clonedParish(receiver(t, 3))
		change(&p)
		all[name] = p
	}
	add("the parish 6", func(p *api.Parish) { p.Me = 6 })
	add("the parish -1", func(p *api.Parish) { p.Me = -1 })
	add("61 taken of the first one", func(p *api.Parish) { p.Taken[0] = 61 })
	add("61 taken of the last one", func(p *api.Parish) { p.Taken[5] = 61 })
	add("less than none taken", func(p *api.Parish) { p.Taken[4] = -1 })
	add("61 taken of itself", func(p *api.Parish) { p.Taken[2] = 61 })
	add("61 heard by the first one", func(p *api.Parish) { p.Heard[0] = 61 })
	add("61 heard by the last one", func(p *api.Parish) { p.Heard[5] = 61 })
	add("less than none heard", func(p *api.Parish) { p.Heard[4] = math.MinInt })
	add("another log", func(p *api.Parish) { p.Log[1].Text = "x" })
	add("a shorter log", func(p *api.Parish) { p.Log = p.Log[:4] })
	add("no log", func(p *api.Parish) { p.Log = nil })
	add("no vellum", func(p *api.Parish) { p.Vellum = api.Vellum{} })
	add("vellum that is not whole", func(p *api.Parish) { p.Vellum.Sheets[0].Wet += "x" })
	return all
}

func TestP81WrongParishes(t *testing.T) {
	for name, p := range wrongParishes(t) {
		expect(t, "Note of "+name, results(vellum.Note(p, api.Record{})), api.Parish{}, api.Record{}, api.ErrParish)
		expect(t, "Renew of "+name, results(vellum.Renew(p)), api.Parish{}, api.ErrParish)
		expect(t, "Send of "+name, results(vellum.Send(p, -1)), api.Parish{}, api.Letter{}, api.ErrParish)
		expect(t, "Receive of "+name, results(vellum.Receive(p, api.Letter{})), api.Parish{}, none, api.ErrParish)
		expect(t, "Restart of "+name, results(vellum.Restart(p, nil)), api.Parish{}, api.ErrParish)
	}
	// What is taken of itself, or heard by itself, may be any such number.
	p := receiver(t, 3)
	p.Taken, p.Heard = [6]int{60, 60, 60, 60, 60, 60}, [6]int{60, 60, 60, 60, 60, 60}
	_, e := vellum.Renew(p)
	expect(t, "Renew of a parish with great numbers", results(e), api.OK)
}

// spoil changes records, also those behind the end of their list.
func spoil(l []api.Record) {
	clear(l[:cap(l)])
}

// spoilParish changes the lists of a parish, also behind their ends.
func spoilParish(p api.Parish) {
	spoil(p.Log)
	spoilVellum(p.Vellum)
}

func spoilVellum(v api.Vellum) {
	clear(v.Sheets[:cap(v.Sheets)])
}

// TestP81Memory changes what is returned: no argument changes with it.
func TestP81Memory(t *testing.T) {
	log := slices.Concat(ownLog(2, 3), ownLog(4, 2))
	v := turned(t, inked(t, log), log)
	b, _ := vellum.Sorted(log)
	p := receiver(t, 3)
	letter := api.Letter{From: 4, To: 2, Records: ownLog(4, 4)}
	all := func() string { return fmt.Sprint(log, v, b, p, letter) }
	want := all()
	kept := func(call string, errors ...api.Errno) {
		t.Helper()
		for _, e := range errors {
			expect(t, call, results(e), api.OK)
		}
		if got := all(); got != want {
			t.Fatalf("%s changes %s to %s", call, want, got)
		}
	}
	l, _ := vellum.Scan(v.Sheets[1])
	spoil(l)
	kept("Scan")
	more, e := vellum.Sorted(log)
	spoil(more.Records)
	kept("Sorted", e)
	for _, r := range records(log[0], record(2, 3, "")) {
		more, e = vellum.Add(b, r)
		spoil(more.Records)
		kept("Add", e)
		w, l, e := vellum.Write(v, log, r)
		spoilVellum(w)
		spoil(l)
		kept("Write", e)
	}
	for _, other := range []api.Book{b, book(), book(record(0, 0, ""))} {
		more, e = vellum.Join(b, other)
		spoil(more.Records)
		kept("Join", e)
		more, e = vellum.Join(other, b)
		spoil(more.Records)
		kept("Join", e)
	}
	l, e = vellum.Standing(b, 100)
	spoil(l)
	kept("Standing", e)
	w, e := vellum.Turn(v, log)
	spoilVellum(w)
	kept("Turn", e)
	spoilVellum(vellum.Dry(v))
	kept("Dry")
	spoilVellum(vellum.Scrape(v))
	kept("Scrape")
	spoilVellum(vellum.Scrape(vellum.Dry(v)))
	kept("Scrape of dry sheets")
	spoilVellum(vellum.Flood(v, []int{1, 2}))
	kept("Flood")
	w, l = vellum.Open(v)
	spoilVellum(w)
	spoil(l)
	kept("Open")
	q, _, e := vellum.Note(p, record(0, 0, ""))
	spoilParish(q)
	kept("Note", e)
	q, e = vellum.Renew(p)
	spoilParish(q)
	kept("Renew", e)
	q, e = vellum.Restart(p, []int{-1})
	spoilParish(q)
	kept("Restart", e)
	q, sent, e := vellum.Send(p, 1)
	checkApart(t, "Send", q, sent)
	kept("Send", e)
	for _, letter := range []api.Letter{letter, {From: 4, To: 2}} {
		q, back, e := vellum.Receive(p, letter)
		checkApart(t, "Receive", q, back[0])
		kept("Receive", e)
	}
	q, back, e := vellum.Receive(p, api.Letter{From: 4, To: 2, First: 60, Seen: 60})
	spoilParish(q)
	kept("Receive of nothing", e)
	expect(t, "letters", results(back), none)
}

// checkApart expects that a parish does not change with its letter, and changes the parish.
func checkApart(t *testing.T, call string, p api.Parish, l api.Letter) {
	t.Helper()
	want := fmt.Sprint(p)
	spoil(l.Records)
	expect(t, call+", then", results(fmt.Sprint(p)), want)
	spoilParish(p)
}

// TestP81Empty hands in empty lists that are not nil.
func TestP81Empty(t *testing.T) {
	l, v := []api.Record{}, api.Vellum{Sheets: []api.Sheet{}}
	expect(t, "Begin", results(vellum.Begin(1, l)), plainSheet(1, 0, nil), api.OK)
	expect(t, "Check", results(vellum.Check(book(l...))), api.OK)
	expect(t, "Sorted", results(vellum.Sorted(l)), book(), api.OK)
	expect(t, "CheckVellum", results(vellum.CheckVellum(vellum.New(), l), vellum.CheckVellum(v, l)), api.OK, api.ErrVellum)
	expect(t, "Open", results(vellum.Open(v)), vellum.New(), none)
	expect(t, "Flood", results(vellum.Flood(vellum.New(), []int{})), vellum.New())
	p, _ := vellum.NewParish(3)
	p.Log = l
	got, back, e := vellum.Receive(p, api.Letter{From: 1, To: 3, Records: l})
	expect(t, "Receive", results(got, back, e), p, none, api.OK)
}

// some returns a number, which may be any.
func some(r *rand.Rand) int {
	return []int{0, 1, 2, 3, 5, 6, 60, 61, 9999, 10000, 99999, 100000, 100001, -1, math.MinInt, math.MaxInt, math.MinInt + 1, math.MaxInt - 1}[r.IntN(18)]
}

// wildRecord returns any record.
func wildRecord(r *rand.Rand) api.Record {
	if r.IntN(2) == 0 {
		return someRecord(r, r.IntN(6), r.IntN(3))
	}
	return api.Record{At: item(some(r), some(r)), Kind: some(r), Day: some(r), Known: some(r), Of: item(some(r), some(r)), Text: []string{"", "x", "~", "\n", "\x00\xff"}[r.IntN(5)]}
}

// wildLog returns any list of records.
func wildLog(r *rand.Rand) []api.Record {
	log := someLog(r, r.IntN(5))
	for range r.IntN(3) {
		log = append(log, wildRecord(r))
	}
	return log
}

// wildVellum returns any vellum.
func wildVellum(r *rand.Rand) (api.Vellum, []api.Record) {
	v, log := someVellum(r)
	for range r.IntN(6) {
		if len(v.Sheets) > 0 {
			v = spoilt(r, v, log)
			v.Sheets[:cap(v.Sheets)][0].No += some(r) * r.IntN(2)
		}
	}
	if r.IntN(3) == 0 {
		log = wildLog(r)
	}
	return v, log
}

// TestP81Wild calls all functions with any arguments: none panics, and with an error all else is a zero value.
func TestP81Wild(t *testing.T) {
	right := map[string]int{}
	eachSeed(t, 815, 6000, func(r *rand.Rand) {
		check := func(name string, e api.Errno, zero bool) {
			if e == api.OK {
				right[name]++
			} else if !zero {
				t.Errorf("%s: %v, and a result", name, e)
			}
		}
		x, y, log := wildRecord(r), wildRecord(r), wildLog(r)
		text, e := vellum.Encode(x)
		check("Encode", e, text == "")
		back, e := vellum.Decode(plainText(x))
		check("Decode", e, back == api.Record{})
		text, e = vellum.Line(some(r), some(r), x.Text)
		check("Line", e, text == "")
		text, e = vellum.Begin(some(r), log)
		check("Begin", e, text == "")
		b, e := vellum.Sorted(log)
		check("Sorted", e, len(b.Records) == 0)
		b, e = vellum.Add(book(log...), x)
		check("Add", e, len(b.Records) == 0)
		b, e = vellum.Join(book(log...), book(wildLog(r)...))
		check("Join", e, len(b.Records) == 0)
		l, e := vellum.Standing(book(log...), some(r))
		check("Standing", e, len(l) == 0)
		v, log := wildVellum(r)
		vellum.Scrape(vellum.Dry(v))
		vellum.Open(vellum.Flood(v, []int{some(r), some(r), some(r), some(r)}[:r.IntN(5)]))
		more, l, e := vellum.Write(v, log, x)
		check("Write", e, len(more.Sheets) == 0 && len(l) == 0)
		more, e = vellum.Turn(v, log)
		check("Turn", e, len(more.Sheets) == 0)
		p := api.Parish{Me: some(r) * r.IntN(2), Vellum: v, Log: log}
		p.Taken[r.IntN(6)], p.Heard[r.IntN(6)] = some(r)*r.IntN(2), some(r)*r.IntN(2)
		q, noted, e := vellum.Note(p, y)
		check("Note", e, isNoParish(q) && noted == api.Record{})
		q, e = vellum.Renew(p)
		check("Renew", e, isNoParish(q))
		q, letter, e := vellum.Send(p, r.IntN(8)-1)
		check("Send", e, isNoParish(q) && letter.From == 0 && letter.To == 0 && letter.First == 0 && letter.Seen == 0 && len(letter.Records) == 0)
		q, letters, e := vellum.Receive(p, api.Letter{From: r.IntN(8) - 1, To: p.Me, First: some(r), Seen: some(r) * r.IntN(2), Records: wildLog(r)})
		check("Receive", e, isNoParish(q) && len(letters) == 0)
		q, e = vellum.Restart(p, []int{some(r)})
		check("Restart", e, isNoParish(q))
	})
	for _, name := range strings.Fields("Encode Decode Line Begin Sorted Add Join Standing Write Turn Note Renew Send Receive Restart") {
		if right[name] < 20 {
			t.Errorf("%s is right just %d times", name, right[name])
		}
	}
}

func isNoParish(p api.Parish) bool {
	return p.Me == 0 && len(p.Log) == 0 && len(p.Vellum.Sheets) == 0 && p.Taken == [6]int{} && p.Heard == [6]int{}
}
