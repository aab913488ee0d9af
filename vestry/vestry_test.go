package vestry_test

import (
	"fmt"
	"math"
	"strings"
	"testing"

	"parvise/api"
	"parvise/lend"
	"parvise/vellum"
	"parvise/vestry"
)

// The examples 1 to 9 of DOC.md, at one vestry.
const documentExamples = `
	deed 0 0 5 1 0 1 1 1: record 0 0
	deed 0 0 5 1 0 2 1 1: record 0 1
	deed 0 0 5 1 0 3 1 1: record 0 2
	deed 0 0 5 3 1 1 2 2: record 0 3
	deed 0 0 5 3 2 2 2 2: record 0 4
	deed 0 0 5 3 3 3 2 20: record 0 5
	lawful 0 1 2 3 10 9: maybe
	lawful 0 1 2 3 20 9: yes
	openers 0 20 9: 1 2 3
	holder 0 3 10 9: 0 3
	lawful 0 1 2 3 20 4: no
	deed 0 0 40 4 1 4 30 35: record 0 6
	hand 0 1 32 40: 1 4
	hand 0 1 35 40: 4
	lawful 0 1 2 3 35 40: no
	lawful 0 2 3 4 35 40: yes
	paper 4 3: ok
	receipt 0 10 10 50 4 1 3: record 0 7
	return 0 0 30 8 50 1 2 20 25: record 0 8
	days 0 9 30: 20 25
	where 0 4 1 22 30: 0 50
	whole 0 4 9 30: yes
	has 0 50 30 30: 4 3
	rule 0 2 50: ok
	lent 0 10 10 50 4 30 3: record 0 9
	back 0 0 45 10 2 35 45: record 0 10
	asking 0 31 31 10: record 0 11
	fine 0 10 50: 54 94
	owed 0 10 50: 54
	shares 0 10 50: 50 54
	holes 2: ok
	shelve 5: ok
	shelve 7: ok
	glimpse 0 0 0 1 0 0 5: record 0 12
	sure 0 1: 5 1 / 7 2
	costs 2 9 1 4: ok
	copy 1 10 20 30 40 50 60: ok
	copy 2 10 20 31 40 50 60: ok
	copy 3 10 0 31 40 50 60: ok
	fewest: 3
	pedigree: 0 1 2
	roots: 1 2
	agreed: 10 20 -1 40 50 60
	parent 2 3: yes
	opening 0 20 50 1 40 1 2 3 0 7 0 9: record 0 13
	opening 0 30 50 2 60 1 2 3 0 9 0 7: record 0 14
	doubt 0 50: 1
	true 0 14 50: maybe
	inside 0 7 25 50: maybe
	give 0 1 1: ok
	write 0: ok
	dry 0: ok
	pack 0 1: bags 1
	at 1: none
	carried 1: 0 1
	open 0: bags 0
	at 1: 1
	holds 1: 1 11 12 13`

// The example of the chapter.
const chapterExample = `
	deed 0 0 5 1 0 1 1 1: record 0 0
	deed 0 0 5 1 0 2 1 1: record 0 1
	deed 0 0 5 1 0 3 1 1: record 0 2
	deed 0 0 5 3 1 1 2 2: record 0 3
	deed 0 0 5 3 2 2 2 2: record 0 4
	deed 0 0 5 3 3 3 2 20: record 0 5
	lawful 0 1 2 3 10 9: maybe
	lawful 0 1 2 3 20 9: yes
	openers 0 20 9: 1 2 3
	opening 0 20 20 1 40 1 2 3 0 7 0 9: record 0 6
	opening 0 30 30 2 50 1 2 3 0 9 0 7: record 0 7
	doubt 0 30: 1
	true 0 7 30: maybe
	inside 0 7 25 30: maybe
	unlawful 0 30: none
	paper 4 3: ok
	receipt 0 10 10 50 4 1 3: record 0 8
	return 0 0 30 9 50 1 2 20 25: record 0 9
	days 0 10 30: 20 25
	where 0 4 1 22 30: 0 50
	holes 2: ok
	shelve 5: ok
	shelve 7: ok
	glimpse 0 0 0 1 0 0 5: record 0 10
	sure 0 1: 5 1 / 7 2
	give 0 1 1: ok
	write 0: ok
	dry 0: ok
	pack 0 1: bags 1
	open 0: bags 0
	holds 1: 1 11 12 13
	at 1: 1
	send 1 0: letters 1
	deliver 0: letters 1
	records: records 11 / records 0 / records 0 / records 0 / records 0 / records 0`

// exampleTexts returns the script of an example, what it tells, and its transcript.
func exampleTexts(example string) (script, told, story string) {
	for line := range strings.Lines(example) {
		line = strings.TrimSpace(line)
		if line == "" {
			continue
		}
		words, answer, _ := strings.Cut(line, ": ")
		script += words + "\n"
		story += "> " + words + "\n"
		for part := range strings.SplitSeq(answer, " / ") {
			told += part + "\n"
			story += "< " + part + "\n"
		}
	}
	return script, told, story
}

func TestP102Examples(t *testing.T) {
	for _, example := range []string{documentExamples, chapterExample} {
		play(t, vestry.New(), example)
		script, told, story := exampleTexts(example)
		expect(t, "Run", results(vestry.Run(script)), told, 0, api.OK)
		expect(t, "Transcript", results(vestry.Transcript(script)), story, 0, api.OK)
		expect(t, "Open", results(vestry.Open(story)), script, told, 0, api.OK)
		expect(t, "Accept", results(vestry.Accept(story)), 0, api.OK)
	}
}

func TestP102New(t *testing.T) {
	v := vestry.New()
	for p := range api.MaxParishes {
		parish, e := vellum.NewParish(p)
		expect(t, fmt.Sprint("Parish ", p), results(v.Parish(p), e), parish, api.OK)
		desk, e := lend.New(p, []int{10*p + 1, 10*p + 2, 10*p + 3})
		expect(t, fmt.Sprint("Desk ", p), results(v.Desk(p), e), desk, api.OK)
	}
	expect(t, "Setting", results(v.Setting()), api.Setting{Holes: 1})
	expect(t, "Letters, Bags", results(v.Letters(), v.Bags()), []api.Letter{}, []api.Bag{})
	for _, p := range []int{-1, 6, math.MinInt, math.MaxInt} {
		expect(t, fmt.Sprint("Parish, Desk ", p), results(v.Parish(p), v.Desk(p)), api.Parish{}, api.Desk{})
	}
	other := vestry.New()
	play(t, other, "holes 2: ok\ngive 0 1 1: ok\nrecords: records 0 / records 0 / records 0 / records 0 / records 0 / records 0")
	expect(t, "one vestry behind a change of another one", results(state(v)), state(vestry.New()))
}

// TestP102Nil asks a nil vestry.
func TestP102Nil(t *testing.T) {
	var v *vestry.Vestry
	for p := -1; p < 7; p++ {
		expect(t, "Parish, Desk of nil", results(v.Parish(p), v.Desk(p)), api.Parish{}, api.Desk{})
	}
	expect(t, "Setting, Letters, Bags of nil", results(v.Setting(), v.Letters(), v.Bags()), api.Setting{}, []api.Letter{}, []api.Bag{})
	for _, c := range []api.Command{{}, {Kind: api.CmdRecords}, {Kind: api.CmdHolds, Args: []int{0}}, {Kind: api.CmdHolds, Args: []int{9}}, {Kind: api.CmdHolds}, {Kind: -1}} {
		expect(t, fmt.Sprint("Do of nil ", c), results(v.Do(c)), refusal(api.ErrWords))
	}
}

func TestP102Papers(t *testing.T) {
	v := play(t, vestry.New(), `
		paper 4 3: ok
		paper 999 30: ok
		paper 1 1: ok
		paper 4 5: ok
		paper 0 3: error 20
		paper 1000 3: error 20
		paper 7 0: error 20
		paper 7 31: error 20
		paper -4 3: error 20`)
	expect(t, "Papers", results(v.Setting()), api.Setting{Holes: 1, Papers: []api.Paper{{Id: 1, Leaves: 1}, {Id: 4, Leaves: 5}, {Id: 999, Leaves: 30}}})
	for id := range 9 {
		tells(t, v, fmt.Sprint("paper ", 20+id, " 1"), "ok")
	}
	play(t, v, `
		paper 19 1: error 2
		paper 1000 1: error 20
		paper 28 7: ok`)
	l := v.Setting().Papers
	expect(t, "Papers", results(len(l), l[10], l[11]), 12, api.Paper{Id: 28, Leaves: 7}, api.Paper{Id: 999, Leaves: 30})
}

func TestP102Rules(t *testing.T) {
	v := play(t, vestry.New(), `
		rule 50 2 50: ok
		rule 0 1000 0: ok
		rule 100000 0 1000: ok
		rule 50 3 7: ok
		rule -1 2 50: error 70
		rule 100001 2 50: error 70
		rule 50 -1 50: error 70
		rule 50 1001 50: error 70
		rule 50 2 -1: error 70
		rule 50 2 1001: error 70`)
	expect(t, "Rules", results(v.Setting()), api.Setting{Holes: 1, Rules: []api.Rule{{From: 0, Daily: 1000}, {From: 50, Daily: 3, Leaf: 7}, {From: 100000, Leaf: 1000}}})
	for from := range 7 {
		tells(t, v, fmt.Sprint("rule ", 20+from, " 1 1"), "ok")
	}
	play(t, v, `
		rule 19 1 1: error 2
		rule -1 1 1: error 70
		rule 26 0 0: ok`)
	l := v.Setting().Rules
	expect(t, "Rules", results(len(l), l[7]), 10, api.Rule{From: 26})
}

func TestP102Holes(t *testing.T) {
	v := play(t, vestry.New(), `
		shelve 5: ok
		shelve 5: ok
		shelve 7: error 31
		holes 0: error 1
		holes 25: error 1
		holes -1: error 1
		hole 0 5 0: 1
		holes 3: ok
		hole 0 5 0: error 32
		shelve 7: ok
		shelve 0: error 31
		shelve 1000: error 31
		shelve 5: ok
		shelve 999: ok
		shelve 7: ok
		shelve 1: error 31
		hole 0 5 0: 1 2 3`)
	expect(t, "Lying", results(v.Setting()), api.Setting{Holes: 3, Lying: []int{5, 7, 999}})
	tells(t, v, "holes 24", "ok")
	expect(t, "Lying", results(v.Setting()), api.Setting{Holes: 24})
	for paper := range 20 {
		tells(t, v, fmt.Sprint("shelve ", 900-paper), "ok")
	}
	play(t, v, `
		shelve 900: ok
		shelve 901: error 31
		holes 1: ok`)
	expect(t, "Lying", results(v.Setting()), api.Setting{Holes: 1})
}

func TestP102Copies(t *testing.T) {
	v := play(t, vestry.New(), `
		fewest: error 45
		costs 2 9 1 4: ok
		costs 101 9 1 4: error 41
		costs 2 -1 1 4: error 41
		copy 3 10 0 31 40 50 60: ok
		copy 1 10 20 30 40 50 61: ok
		copy 2 10 20 31 40 50 60: ok
		copy 1 10 20 30 40 50 60: ok
		copy 1 10 20 30 40 50 100: error 40
		copy 1 -1 20 30 40 50 60: error 40
		copy 0 10 20 30 40 50 60: error 40
		copy 100 10 20 30 40 50 60: error 40
		copy 4 10 20 30 40 50 100: error 40
		never 1 4: error 1
		never 4 1: error 1
		never 1 1: error 1
		never 0 0: error 1
		never 2 3: ok
		never 2 1: ok
		never 1 3: ok
		never 2 1: ok
		clear: ok`)
	expect(t, "behind clear", results(v.Setting()), api.Setting{Holes: 1})
	play(t, v, `
		copy 3 10 0 31 40 50 60: ok
		copy 1 10 20 30 40 50 61: ok
		never 3 1: ok
		never 1 3: ok
		costs 1 2 3 100: ok
		copy 1 1 20 30 40 50 60: ok`)
	want := api.Stem{
		Copies: []api.Copy{{Id: 1, Words: []int{1, 20, 30, 40, 50, 60}}, {Id: 3, Words: []int{10, 0, 31, 40, 50, 60}}},
		Costs:  api.Costs{Lose: 1, Gain: 2, Like: 3, Turn: 100},
		Never:  []api.Never{{From: 1, To: 3}, {From: 3, To: 1}},
	}
	expect(t, "Stem", results(v.Setting()), api.Setting{Holes: 1, Stem: want})
	tells(t, v, "fewest", "error 45")
	tells(t, v, "prove", "error 45")
}

func TestP102ManyCopies(t *testing.T) {
	v := vestry.New()
	for id := range 7 {
		tells(t, v, fmt.Sprint("copy ", 7-id, " 1 2 3 4 5 6"), "ok")
	}
	play(t, v, `
		copy 8 1 2 3 4 5 6: error 2
		copy 8 1 2 3 4 5 100: error 40
		copy 0 1 2 3 4 5 6: error 40
		copy 7 1 2 3 4 5 0: ok`)
	for n := range 40 {
		from, to := 7-n/6, 1+n%6
		if to >= from {
			to++
		}
		tells(t, v, fmt.Sprint("never ", from, " ", to), "ok")
	}
	play(t, v, `
		never 1 6: error 2
		never 1 8: error 1
		never 1 1: error 1
		never 7 1: ok`)
	never := v.Setting().Stem.Never
	expect(t, "Never", results(len(never), never[0], never[4], never[39]), 40, api.Never{From: 1, To: 2}, api.Never{From: 2, To: 1}, api.Never{From: 7, To: 6})
}

func TestP102Strays(t *testing.T) {
	v := play(t, vestry.New(), `
		stray 7 3 0 0 0 2: ok
		stray 1 3 10 20 1 0: ok
		stray 2 3 20 30 3 0: ok
		stray 4 3 30 0 2 0: ok
		order 3: 1 2 4 7
		orders 3: 3
		next 3: 1 2
		place 7: 0 3
		place 2: 1 2
		place 3: error 53
		order 0: error 1
		orders 1000: error 1
		next 0: error 1
		order 9: none
		orders 9: 1
		next 9: none
		stray 4 3 30 0 2 0: error 50
		stray 100 3 30 0 2 0: error 50
		stray 5 0 30 0 2 0: error 50
		stray 5 3 1000 0 2 0: error 50
		stray 5 3 0 1000 2 0: error 50
		stray 5 3 0 0 4096 0: error 50
		stray 5 3 0 0 2 2: error 50
		stray 9 8 1 2 0 0: ok
		sew 7 1: ok
		order 3: 7 1 2 4
		sew 7 2: error 51
		sew 7 1: error 51
		sew 4 1: error 51
		sew 4 9: error 51
		sew 4 5: error 51
		sew 4 4: error 51
		sew 1 2: ok
		next 3: 1 2 / 2 4 / 7 1
		sew 4 2: error 51
		sew 2 7: ok
		order 3: error 55
		next 3: error 55
		place 1: error 55
		orders 3: 0`)
	want := api.Heap{
		Strays: []api.Stray{{Id: 1, Paper: 3, First: 10, Catch: 20, Holes: 1}, {Id: 2, Paper: 3, First: 20, Catch: 30, Holes: 3}, {Id: 4, Paper: 3, First: 30, Holes: 2}, {Id: 7, Paper: 3, Unsure: 2}, {Id: 9, Paper: 8, First: 1, Catch: 2}},
		Sewn:   []api.Sewn{{From: 1, To: 2}, {From: 2, To: 7}, {From: 7, To: 1}},
	}
	expect(t, "Heap", results(v.Setting()), api.Setting{Holes: 1, Heap: want})
	tells(t, v, "clear", "ok")
	expect(t, "behind clear", results(v.Setting()), api.Setting{Holes: 1})
	for id := range 24 {
		tells(t, v, fmt.Sprint("stray ", 1+id, " ", 1+id/7, " 0 0 0 0"), "ok")
	}
	play(t, v, `
		stray 50 9 0 0 0 0: error 2
		stray 1 9 0 0 0 0: error 50`)
	for from := range 12 {
		tells(t, v, fmt.Sprint("sew ", 1+from+from/6, " ", 2+from+from/6), "ok")
	}
	tells(t, v, "sew 15 16", "error 51")
}

// TestP102Clear clears what was told of copies and leaves, and nothing else.
func TestP102Clear(t *testing.T) {
	v := play(t, vestry.New(), "paper 4 3: ok\nrule 1 2 3: ok\nholes 4: ok\nshelve 5: ok")
	before := state(v)
	play(t, v, "costs 1 2 3 4: ok\ncopy 1 1 2 3 4 5 6: ok\ncopy 2 1 2 3 4 5 6: ok\nnever 1 2: ok\nstray 1 2 3 4 5 0: ok\nstray 2 2 3 4 5 0: ok\nsew 1 2: ok\nclear: ok")
	expect(t, "behind clear", results(state(v)), before)
}
