package vellum_test

import (
	"fmt"
	"math"
	"slices"
	"testing"

	"parvise/api"
	"parvise/vellum"
)

func TestP81NewParish(t *testing.T) {
	for me := range api.MaxParishes {
		expect(t, fmt.Sprint("NewParish ", me), results(vellum.NewParish(me)), api.Parish{Me: me, Vellum: vellum.New()}, api.OK)
	}
	for _, me := range []int{-1, 6, math.MinInt, math.MaxInt} {
		expect(t, fmt.Sprint("NewParish ", me), results(vellum.NewParish(me)), api.Parish{}, api.ErrArg)
	}
}

func TestP81Note(t *testing.T) {
	p := parishWith(t, 2, record(2, 0, "a"), record(1, 0, "b"), record(2, 1, "c"))
	p.Taken[1], p.Heard[5] = 3, 60
	for _, at := range []api.Item{{}, item(2, 2), item(1, 0), item(-7, math.MaxInt)} {
		r := record(0, 0, "new")
		r.At = at
		want := clonedParish(p)
		want.Log = append(want.Log, record(2, 2, "new"))
		want.Vellum.Sheets[0].Wet += line(1, 5, plainText(record(2, 2, "new")))
		expect(t, fmt.Sprint("Note of ", at), results(vellum.Note(p, r)), want, record(2, 2, "new"), api.OK)
	}
	got, r, e := vellum.Note(p, api.Record{Known: 9, Of: item(2, 1)})
	expect(t, "Note that withdraws", results(got.Log[3], r, e), withdrawal(2, 2, 1, 9), withdrawal(2, 2, 1, 9), api.OK)
	for _, r := range []api.Record{{}, {Of: item(2, 2)}, {Of: item(1, 0)}, {Kind: 61}, {Kind: 1, Day: -1}, {Kind: 1, Text: "~"}, {Kind: 1, Of: item(2, 0)}} {
		expect(t, fmt.Sprint("Note of ", r), results(vellum.Note(p, r)), api.Parish{}, api.Record{}, api.ErrRecord)
	}
	p = parishWith(t, 2, full()...)
	expect(t, "Note of a 61st record", results(vellum.Note(p, api.Record{Kind: 1})), api.Parish{}, api.Record{}, api.ErrLong)
	expect(t, "Note of a 61st record that is none", results(vellum.Note(p, api.Record{Kind: -1})), api.Parish{}, api.Record{}, api.ErrRecord)
	// It dries no ink.
	expect(t, "Note of nothing yet", results(vellum.Note(parishWith(t, 4), api.Record{Kind: 1})), api.Parish{Me: 4, Log: records(api.Record{At: item(4, 0), Kind: 1}), Vellum: inked(t, records(api.Record{At: item(4, 0), Kind: 1}))}, api.Record{At: item(4, 0), Kind: 1}, api.OK)
}

func TestP81Renew(t *testing.T) {
	log := records(record(2, 0, "a"), record(1, 0, "b"))
	p := parishWith(t, 2, log...)
	p.Taken[1], p.Heard[5] = 3, 60
	want := clonedParish(p)
	want.Vellum = sheets(api.Sheet{No: 2, Dry: plainSheet(2, 2, log)})
	expect(t, "Renew", results(vellum.Renew(p)), want, api.OK)
	p.Vellum = turned(t, turned(t, p.Vellum, log), log)
	want.Vellum = sheets(api.Sheet{No: 4, Dry: plainSheet(4, 2, log)})
	expect(t, "Renew of three sheets", results(vellum.Renew(p)), want, api.OK)
	p.Vellum = turned(t, p.Vellum, log)
	expect(t, "Renew of four sheets", results(vellum.Renew(p)), api.Parish{}, api.ErrLong)
	p.Vellum = sheets(api.Sheet{No: 99999, Dry: plainSheet(99999, 0, log)})
	expect(t, "Renew of the last sheet", results(vellum.Renew(p)), api.Parish{}, api.ErrLong)
	p.Vellum = sheets(api.Sheet{No: 99998, Dry: plainSheet(99998, 0, log)})
	want.Vellum = sheets(api.Sheet{No: 99999, Dry: plainSheet(99999, 2, log)})
	expect(t, "Renew of the last sheet but one", results(vellum.Renew(p)), want, api.OK)
}

func TestP81Send(t *testing.T) {
	log := ownLog(2, 9)
	p := parishWith(t, 2, log...)
	p.Taken = [6]int{1, 2, 3, 4, 5, 60}
	p.Heard = [6]int{0, 2, 7, 3, 9, 60}
	want := clonedParish(p)
	want.Vellum = vellum.Dry(p.Vellum)
	for to, l := range map[int][]api.Record{0: log[:6], 1: log[2:8], 3: log[3:], 4: nil, 5: nil} {
		letter := api.Letter{From: 2, To: to, First: min(9, p.Heard[to]), Seen: p.Taken[to], Records: l}
		expect(t, fmt.Sprint("Send to ", to), results(vellum.Send(p, to)), want, letter, api.OK)
	}
	for _, to := range []int{2, -1, 6, math.MinInt, math.MaxInt} {
		expect(t, fmt.Sprint("Send to ", to), results(vellum.Send(p, to)), api.Parish{}, api.Letter{}, api.ErrArg)
	}
	// There are sheets yet: those that are not needed are not scraped.
	p.Vellum = turned(t, p.Vellum, log)
	want.Vellum = vellum.Dry(p.Vellum)
	got, _, e := vellum.Send(p, 0)
	expect(t, "Send of two sheets", results(got, e), want, api.OK)
}

// receiver returns a parish 2 with two records of its own, and three of 4, which has taken so many of the log of 4, and none of it is dry.
func receiver(t *testing.T, taken int) api.Parish {
	t.Helper()
	p := parishWith(t, 2, slices.Concat(ownLog(2, 2), ownLog(4, 3))...)
	p.Taken = [6]int{1, 2, 3, 4, taken, 5}
	p.Heard = [6]int{9, 8, 7, 6, 5, 4}
	return p
}

func TestP81Receive(t *testing.T) {
	four := ownLog(4, 9)
	for _, c := range []struct {
		name               string
		taken, first, seen int
		records            []api.Record
		want, now          int // how many records of 4 are there then, and how many were taken
		back               bool
	}{
		{"the next ones", 3, 3, 0, four[3:9], 9, 9, true},
		{"the next one, that sees all", 3, 3, 5, four[3:4], 4, 4, true},
		{"none, that sees all", 3, 3, 5, nil, 3, 3, false},
		{"none, that sees more than all", 3, 3, 60, nil, 3, 3, false},
		{"none, that sees nearly all", 3, 3, 4, nil, 3, 3, true},
		{"some that are there", 3, 1, 5, four[1:5], 5, 5, true},
		{"just some that are there", 3, 0, 5, four[:2], 3, 3, true},
		{"from the first one on, of which just one was taken", 1, 0, 5, four[:6], 6, 6, true},
		{"some that are there, of which fewer were taken", 1, 1, 5, four[1:2], 3, 2, true},
		{"none, of which fewer were taken", 1, 1, 5, nil, 3, 1, false},
		{"later ones", 3, 4, 5, four[3:9], 3, 3, true},
		{"none, and later", 3, 4, 5, nil, 3, 3, false},
		{"none, and later, that sees nearly all", 3, 60, 4, nil, 3, 3, true},
		{"as many as may be", 58, 56, 5, four[:6], 6, 60, true},
		{"more than may be", 60, 60, 5, four[:6], 6, 60, true},
		{"none from the first one on", 3, 0, 5, nil, 3, 3, false},
	} {
		p := receiver(t, c.taken)
		want := clonedParish(p)
		want.Log = append(want.Log, four[3:c.want]...)
		want.Vellum = sheets(api.Sheet{No: 1, Dry: plainSheet(1, 0, want.Log)})
		want.Taken[4], want.Heard[4] = c.now, c.seen
		first := min(c.seen, len(want.Log))
		var back []api.Letter
		if c.back {
			back = []api.Letter{{From: 2, To: 4, First: first, Seen: c.now, Records: want.Log[first:min(first+6, len(want.Log))]}}
		}
		l := api.Letter{From: 4, To: 2, First: c.first, Seen: c.seen, Records: c.records}
		expect(t, "Receive of "+c.name, results(vellum.Receive(p, l)), want, back, api.OK)
	}
}

func TestP81ReceiveErrors(t *testing.T) {
	p := receiver(t, 3)
	for _, c := range []struct {
		name    string
		records []api.Record
		e       api.Errno
	}{
		{"a record that differs", records(record(4, 3, "x"), record(4, 2, "x")), api.ErrDiffer},
		{"a gap", records(record(4, 3, "x"), record(4, 5, "x")), api.ErrGap},
		{"one that differs behind a gap", records(record(4, 4, "x"), record(4, 2, "x")), api.ErrGap},
		{"a gap behind one that differs", records(record(4, 2, "x"), record(4, 4, "x")), api.ErrDiffer},
		{"records in the wrong order", records(record(1, 1, "x"), record(1, 0, "x")), api.ErrGap},
	} {
		l := api.Letter{From: 4, To: 2, First: 3, Records: c.records}
		expect(t, "Receive of "+c.name, results(vellum.Receive(p, l)), api.Parish{}, none, c.e)
		l.First = 4
		got, _, e := vellum.Receive(p, l)
		expect(t, "Receive, later, of "+c.name, results(got.Log, e), p.Log, api.OK)
	}
	p = parishWith(t, 2, full()[:58]...)
	l := api.Letter{From: 4, To: 2, Records: records(full()[58], full()[3], full()[59], full()[58])}
	got, _, e := vellum.Receive(p, l)
	expect(t, "Receive of the 60th", results(got.Log, e), full(), api.OK)
	l.Records = append(l.Records, record(0, 10, ""))
	expect(t, "Receive of a 61st", results(vellum.Receive(p, l)), api.Parish{}, none, api.ErrLong)
}

func TestP81Restart(t *testing.T) {
	log := records(record(2, 0, "a"), record(1, 0, "b"))
	p := parishWith(t, 2, log...)
	p.Taken, p.Heard = [6]int{1, 2, 3, 4, 5, 6}, [6]int{6, 5, 4, 3, 2, 1}
	ink := p.Vellum.Sheets[0].Wet
	half := len(line(1, 2, plainText(log[0])))
	for _, c := range []struct {
		picks []int
		left  int
	}{
		{nil, 0}, {[]int{0}, 0}, {[]int{len(ink), 0, 0}, 2}, {[]int{len(ink) - 1, 0, 0}, 1}, {[]int{-1, 0, 0}, 2}, {[]int{half, 0, 0}, 1}, {[]int{half - 1, 0, 0}, 0},
		{[]int{len(ink), 1, 0}, 0}, {[]int{len(ink), 1, half - 1}, 0}, {[]int{len(ink), 1, half}, 1}, {[]int{len(ink), 1, -1}, 1}, {[]int{half, 3, half}, 0},
	} {
		want := api.Parish{Me: 2, Vellum: sheets(api.Sheet{No: 1, Dry: plainSheet(1, c.left, log[:c.left])}), Log: log[:c.left]}
		expect(t, fmt.Sprint("Restart with ", c.picks), results(vellum.Restart(p, c.picks)), want, api.OK)
	}
	p.Vellum = turned(t, vellum.Dry(p.Vellum), log)
	first := api.Parish{Me: 2, Vellum: sheets(api.Sheet{No: 1, Dry: plainSheet(1, 2, log)}), Log: log}
	second := api.Parish{Me: 2, Vellum: sheets(api.Sheet{No: 2, Dry: plainSheet(2, 2, log)}), Log: log}
	expect(t, "Restart without the new sheet", results(vellum.Restart(p, nil)), first, api.OK)
	expect(t, "Restart with the new sheet", results(vellum.Restart(p, []int{0, 0, 0, -1, 0, 0})), second, api.OK)
}
