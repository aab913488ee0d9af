package vestry_test

import (
	"fmt"
	"math"
	"math/rand/v2"
	"strings"
	"testing"

	"parvise/api"
	"parvise/vellum"
	"parvise/vestry"
)

// TestP102RecordErrors names records that may not be.
func TestP102RecordErrors(t *testing.T) {
	v := vestry.New()
	before := state(v)
	play(t, v, `
		deed 0 0 5 0 0 1 1 1: error 10
		deed 0 0 5 7 0 1 1 1: error 10
		deed 0 0 5 1 1 1 1 1: error 10
		deed 0 0 5 1 0 0 1 1: error 10
		deed 0 0 5 1 0 100 1 1: error 10
		deed 0 0 5 3 4 1 1 1: error 10
		deed 0 0 5 1 0 1 2 1: error 10
		deed 0 0 5 1 0 1 -1 1: error 10
		deed 0 0 5 1 0 1 1 1000000000: error 10
		deed 0 0 -1 1 0 1 1 1: error 10
		deed 0 -1 -1 1 0 1 1 1: error 10
		deed 0 -1 5 1 0 1 1 1: error 80
		deed 0 100001 5 1 0 1 1 1: error 80
		receipt 0 10 10 50 4 1 0: error 1
		receipt 0 10 10 50 4 1 31: error 1
		receipt 0 10 10 50 4 1 -1: error 1
		receipt 0 10 10 50 4 1 1000000000: error 1
		receipt 0 -1 -1 0 0 0 0: error 1
		receipt 0 10 10 50 4 1 -1000000000: error 1
		receipt 0 10 10 50 4 2 30: error 21
		receipt 0 10 10 50 4 1000000000 30: error 21
		receipt 0 10 10 50 4 -1 3: error 21
		receipt 0 10 10 0 4 1 3: error 21
		receipt 0 -1 10 50 4 1 3: error 21
		receipt 0 10 100001 50 4 1 3: error 21
		return 0 0 30 8 50 1 0 20 25: error 1
		return 0 0 30 8 50 1 31 20 25: error 1
		return 0 0 30 0 50 1 0 20 25: error 1
		return 0 0 30 0 50 1 2 20 25: error 22
		return 0 0 30 8 0 1 2 20 25: error 22
		return 0 0 30 8 50 30 2 20 25: error 22
		return 0 0 30 8 50 1 2 25 20: error 22
		return 0 -1 30 8 50 1 2 20 25: error 80
		sight 0 10 10 100 4 1: error 23
		sight 0 10 10 -1 4 1: error 23
		sight 0 10 10 1 0 1: error 23
		sight 0 10 10 1 4 0: error 23
		sight 0 10 10 1 4 31: error 23
		glimpse 0 0 0 1 5 0 7: error 1
		glimpse 0 0 0 1 0 7 0: error 1
		glimpse 0 0 0 1 7 0 0: error 1
		glimpse 0 0 0 0 7 0 0: error 1
		glimpse 0 0 0 0 0 0 7: error 30
		glimpse 0 0 0 25 0 0 7: error 30
		glimpse 0 0 0 1 0 7 7: error 30
		glimpse 0 0 0 1 0 7 5: error 30
		glimpse 0 0 0 1 0 -1 7: error 30
		glimpse 0 0 0 1 0 0 1000: error 30
		glimpse 0 -1 0 1 0 0 7: error 80
		opening 0 20 50 1 40 0 2 3 0 7 0 9: error 1
		opening 0 20 50 1 40 -1 2 3 0 7 0 9: error 1
		opening 0 20 50 1 40 1 2 100 0 7 0 9: error 1
		opening 0 20 50 1 40 1 1 3 0 7 0 9: error 1
		opening 0 20 50 1 40 1 3 3 0 7 0 9: error 1
		opening 0 20 50 1 40 1 3 2 0 7 0 9: error 1
		opening 0 20 50 1 40 2 1 3 0 7 0 9: error 1
		opening 0 20 50 1 40 1 2 3 7 0 0 9: error 1
		opening 0 20 50 1 40 1 2 3 0 7 9 0: error 1
		opening 0 20 50 0 40 1 2 3 0 7 9 0: error 1
		opening 0 20 50 0 40 1 2 3 0 7 0 9: error 60
		opening 0 20 50 3 40 1 2 3 0 7 0 9: error 60
		opening 0 20 50 1 19 1 2 3 0 7 0 9: error 60
		opening 0 20 50 1 40 1 2 3 7 7 0 9: error 60
		opening 0 20 50 1 40 1 2 3 0 7 9 8: error 60
		opening 0 20 50 1 40 1 2 3 0 7 0 7: error 60
		opening 0 20 50 1 40 1 2 3 0 -1 0 7: error 60
		opening 0 20 50 1 40 1 2 3 0 7 0 1000: error 60
		opening 0 -1 50 1 40 1 2 3 0 7 0 9: error 60
		lent 0 10 10 0 4 30 3: error 71
		lent 0 10 10 50 4 9 3: error 71
		lent 0 10 10 50 4 30 0: error 71
		lent 0 10 10 50 4 30 201: error 71
		back 0 0 45 0 2 35 45: error 72
		back 0 0 45 10 2 35 46: error 72
		back 0 0 45 10 0 35 45: error 72
		back 0 -1 45 10 2 35 45: error 80
		asking 0 31 31 0: error 73
		asking 0 32 31 10: error 73
		asking 0 31 31 100000: error 73
		payment 0 1 2 0 5: error 74
		payment 0 1 2 3 0: error 74
		payment 0 1 2 3 1000001: error 74
		payment 0 -1 2 3 5: error 80
		surety 0 1 2 0 5 6: error 75
		surety 0 1 2 3 0 6: error 75
		surety 0 1 2 3 100 6: error 75
		surety 0 1 2 3 5 -1: error 75
		surety 0 1 2 3 5 1000001: error 75
		surety 0 100001 2 3 5 6: error 80
		withdraw 0 5 0: error 3`)
	expect(t, "behind what was refused", results(state(v)), before)
}

// TestP102ManyRecords fills a parish.
func TestP102ManyRecords(t *testing.T) {
	v := vestry.New()
	for no := range api.MaxRecords {
		tells(t, v, fmt.Sprint("asking 1 2 3 ", 1+no), fmt.Sprint("record 1 ", no))
	}
	play(t, v, `
		asking 1 2 3 4: error 2
		asking 1 2 3 0: error 73
		withdraw 1 5 60: error 3
		withdraw 1 5 59: error 2
		records: records 0 / records 60 / records 0 / records 0 / records 0 / records 0
		asking 2 2 3 4: record 2 0
		send 2 1: letters 1
		send 1 0: letters 2
		double 0: letters 3`)
	before := v.Letters()
	// The letter of the parish 2 is gone, though the parish 1 cannot take it.
	parish := fmt.Sprint(v.Parish(1))
	tells(t, v, "deliver 0", "error 2")
	expect(t, "Letters", results(v.Letters()), before[1:])
	expect(t, "the parish 1", results(fmt.Sprint(v.Parish(1))), parish)
	play(t, v, `
		deliver 1: error 2
		deliver 0: letters 1
		lose 0: letters 0
		deliver 0: error 3`)
}

func TestP102Withdraw(t *testing.T) {
	v := play(t, vestry.New(), `
		asking 1 2 3 7: record 1 0
		asking 2 2 3 8: record 2 0
		withdraw 2 5 1: error 3
		withdraw 2 5 -1: error 3
		withdraw 3 5 0: error 3
		withdraw 2 -1 0: error 80
		withdraw 2 100001 0: error 80
		withdraw 2 5 0: record 2 1
		withdraw 2 6 0: error 1
		withdraw 2 -1 0: error 1
		withdraw 2 6 1: error 1
		withdraw 2 6 2: error 3
		send 2 1: letters 1
		deliver 0: letters 1
		withdraw 1 6 1: error 3
		withdraw 1 0 0: record 1 1
		withdraw 1 6 0: error 1`)
	expect(t, "Log", results(v.Parish(1).Log[3]), api.Record{At: api.Item{Parish: 1, No: 1}, Of: api.Item{Parish: 1}})
	expect(t, "Log", results(v.Parish(2).Log), []api.Record{{At: api.Item{Parish: 2}, Kind: api.RecAsking, Day: 2, Known: 3, Text: "8"}, {At: api.Item{Parish: 2, No: 1}, Known: 5, Of: api.Item{Parish: 2}}})
}

// TestP102Notes has a record of each kind, with the text that it gets.
func TestP102Notes(t *testing.T) {
	for kind, text := range map[int]string{
		api.RecDeed: "3 1 7 15 900", api.RecReceipt: "50 4 2 3", api.RecReturn: "9 6 2 2 5 7", api.RecSight: "0 4 30", api.RecGlimpse: "1 0 0 7", api.RecOpening: "2 10 1 2 3 0 7 8 9",
		api.RecLent: "50 4 10 200", api.RecBack: "7 200 0 20", api.RecAsking: "7", api.RecPayment: "7 10", api.RecSurety: "7 99 0",
	} {
		v, word := vestry.New(), plainUsages[10+kind].word
		p, r, e := vellum.Note(v.Parish(4), api.Record{Kind: kind, Day: 10, Known: 20, Text: text})
		tells(t, v, word+" 4 10 20 "+text, "record 4 0")
		tells(t, v, word+"  4 10  20 "+text, "record 4 1")
		expect(t, "the first record, "+word, results(v.Parish(4).Log[0], e), r, api.OK)
		p, _, e = vellum.Note(p, r)
		expect(t, "the parish behind "+word, results(v.Parish(4), e), p, api.OK)
	}
}

// TestP102Parishes has commands of parishes that there are not, whatever else is wrong.
func TestP102Parishes(t *testing.T) {
	v := vestry.New()
	before := state(v)
	for kind, u := range plainUsages {
		if len(u.names) == 0 || u.names[0] != "PARISH" {
			continue
		}
		for _, place := range []int{-1, 6, 1000000000, -1000000000} {
			for _, n := range []int{0, 1, -1, 1000000000} {
				c := api.Command{Kind: kind, Args: []int{place}}
				for range u.names[1:] {
					c.Args = append(c.Args, n)
				}
				expect(t, fmt.Sprint(c), results(v.Do(c)), refusal(api.ErrArg))
				c.Args[0] = 1000000001
				expect(t, fmt.Sprint(c), results(v.Do(c)), refusal(api.ErrWords))
			}
		}
	}
	expect(t, "behind what was refused", results(state(v)), before)
}

func TestP102Letters(t *testing.T) {
	v := play(t, vestry.New(), `
		deliver 0: error 3
		lose 0: error 3
		double 0: error 3
		send 0 0: error 1
		send 0 6: error 1
		send 0 -1: error 1
		asking 0 1 2 3: record 0 0
		flood 0 0 0 0 0 0 0: records 0
		asking 0 1 2 3: record 0 0
		flood 0 -1 0 0 0 0 0: records 1
		asking 0 1 2 4: record 0 1
		flood 0 -1 1 3 0 0 0: records 1
		asking 0 1 2 4: record 0 1
		renew 0: ok
		asking 0 1 2 5: record 0 2
		send 0 1: letters 1
		flood 0 0 0 0 0 0 0: records 3
		send 0 2: letters 2
		send 0 3: letters 3
		deliver -1: letters 3
		records: records 3 / records 0 / records 0 / records 3 / records 0 / records 0
		lose -2: letters 2
		double 1: letters 3
		double 1000000000: letters 4
		deliver 7: letters 4
		deliver 1: letters 4
		lose -1000000000: letters 3
		deliver 2: letters 2`)
	ways := func() []string {
		var all []string
		for _, l := range v.Letters() {
			all = append(all, fmt.Sprint(l.From, l.To, len(l.Records)))
		}
		return all
	}
	expect(t, "the letters", results(ways()), []string{"3 0 3", "0 3 0"})
	play(t, v, "send 0 1: letters 3")
	for n := range api.MaxLetters - 3 {
		tells(t, v, "double 0", fmt.Sprint("letters ", 4+n))
	}
	play(t, v, "asking 0 1 2 3: record 0 3\nlose 39: letters 39\nsend 0 4: letters 40")
	tells(t, v, "asking 0 1 2 3", "record 0 4")
	before := state(v)
	play(t, v, `
		send 0 4: error 2
		send 0 0: error 1
		double 3: error 2
		double -3: error 2`)
	expect(t, "behind what was refused", results(state(v)), before)
	// Nothing was sent, so the ink of the last record did not dry.
	play(t, v, `
		flood 0 0 0 0 0 0 0: records 4
		deliver 2: letters 40
		lose 2: letters 39`)
	expect(t, "the last letters", results(ways()[35:]), []string{"3 0 3", "3 0 3", "0 4 4", "1 0 3"})
}

// TestP102Floods has picks of all kinds: a flood takes all six.
func TestP102Floods(t *testing.T) {
	eachSeed(t, 1022, 300, func(r *rand.Rand) {
		v := play(t, vestry.New(), "asking 0 1 2 3: record 0 0\nrenew 0: ok\nasking 0 1 2 4: record 0 1\nasking 0 1 2 5: record 0 2")
		var picks []int
		for range 6 {
			picks = append(picks, few(r, 0, 1, -1, r.IntN(100), someNumber(r)))
		}
		want, e := vellum.Restart(v.Parish(0), picks)
		expect(t, "flood", results(v.Do(api.Command{Kind: api.CmdFlood, Args: append([]int{0}, picks...)}), e), []string{fmt.Sprint("records ", len(want.Log))}, api.OK)
		expect(t, "the parish behind the flood", results(v.Parish(0)), want)
	})
}

func TestP102Bags(t *testing.T) {
	v := play(t, vestry.New(), `
		open 0: error 3
		drop 0: error 3
		twice 0: error 3
		pack 0 0: error 94
		pack 0 6: error 94
		give 0 9 1: error 95
		give 0 0 1: error 1
		give 0 1000 9: error 1
		give 0 1 0: error 94
		give 0 1 6: error 94
		give 0 1 1: ok
		at 1: none
		carried 1: 0 1
		soak 0 1: ok
		at 1: 0
		give 0 1 1: ok
		write 0: ok
		soak 0 1: ok
		at 1: 0
		give 0 1 1: ok
		write 0: ok
		soak 0 2: ok
		at 1: none
		give 0 2 1: ok
		give 0 3 2: ok
		write 0: ok
		pack 0 1: bags 1
		dry 0: ok
		pack 0 1: bags 2
		pack 0 2: bags 3
		twice -1: bags 4
		holds 0: none
		open 1: bags 3
		holds 1: 1 2 11 12 13
		carried 2: none
		carried 3: 0 2
		open -3: bags 2
		holds 2: 21 22 23
		open 1000000000: bags 1
		holds 2: 3 21 22 23
		open 0: bags 0
		holds 2: 3 21 22 23
		at 3: 2
		at 0: error 1
		carried 1000: error 1
		write 1: ok
		dry 1: ok
		pack 1 0: bags 1
		soak 1 1: ok
		open 0: bags 0
		holds 1: 1 2 11 12 13`)
	expect(t, "the desk 0", results(v.Desk(0).Now.Sent, len(v.Desk(0).Now.Under[1]), len(v.Desk(0).Now.Under[2])), [6]int{0, 2, 1}, 0, 1)
	tells(t, v, "pack 3 4", "bags 1")
	for n := range api.MaxBags - 1 {
		tells(t, v, "twice 5", fmt.Sprint("bags ", 2+n))
	}
	before := state(v)
	play(t, v, `
		pack 3 5: error 2
		pack 3 3: error 94
		twice 0: error 2
		drop 3: bags 39
		twice 0: bags 40
		drop 3: bags 39
		pack 3 4: bags 40`)
	expect(t, "behind what was refused", results(state(v)), before)
}

// TestP102QueryErrors asks for what there is not.
func TestP102QueryErrors(t *testing.T) {
	v := play(t, vestry.New(), `
		paper 4 3: ok
		shelve 5: ok`)
	before := state(v)
	play(t, v, `
		holder 0 0 5 5: error 15
		hand 0 4 -1 5: error 15
		holder 0 1 -1 5: error 6
		office 0 0 5 5: error 16
		office 0 100 5 -1: error 16
		office 0 1 5 -1: error 6
		lawful 0 1 1 2 5 5: error 16
		lawful 0 1 3 2 5 -1: error 16
		lawful 0 0 1 2 5 5: error 16
		lawful 0 1 2 3 5 100001: error 6
		openers 0 5 5: error 18
		openers 0 5 -1: error 6
		where 0 4 4 5 5: error 26
		where 0 5 1 5 5: error 26
		where 0 5 1 5 -1: error 6
		whole 0 5 5 5: error 26
		whole 0 5 -1 5: error 6
		days 0 1 5: error 3
		days 0 1 -1: error 6
		has 0 -1 5 5: error 1
		has 0 100 5 -1: error 1
		has 0 9 5 -1: error 6
		clash 0 5: error 28
		clash 0 -1: error 6
		lies 0 6 1 5: error 32
		lies 0 5 2 5: error 33
		lies 0 5 1 -1: error 6
		hole 0 6 -1: error 32
		hole 0 5 -1: error 6
		look 0 6 5: error 32
		sure 0 -1: error 6
		misread 0 5: error 35
		misread 0 -1: error 6
		fewest: error 45
		roots: error 45
		agreed: error 45
		pedigree: error 45
		prove: error 45
		parent 1 2: error 1
		place 1: error 53
		doubt 0 -1: error 6
		true 0 1 5: error 62
		true 0 1 -1: error 6
		inside 0 0 5 5: error 1
		inside 0 0 5 -1: error 6
		inside 0 7 -1 5: error 6
		inside 0 0 -1 5: error 1
		unlawful 0 100001: error 6
		content 0 -1 5: error 6
		content 0 5 -1: error 6
		fine 0 1 5: error 3
		fine 0 1 -1: error 6
		owed 0 1 5: error 3
		shares 0 1 5: error 3
		overdue 0 -1: error 6`)
	play(t, v, `
		holder 0 1 5 5: 0
		hand 0 1 5 5: 0
		office 0 1 5 5: no
		lawful 0 1 2 3 5 5: no
		where 0 4 3 5 5: 0
		whole 0 4 5 5: yes
		has 0 9 5 5: none
		has 0 0 5 5: 4 1 / 4 2 / 4 3
		lies 0 5 1 5: yes
		hole 0 5 5: 1
		look 0 5 5: none
		sure 0 5: 5 1
		order 3: none
		orders 3: 1
		next 3: none
		doubt 0 5: 0
		inside 0 7 5 5: maybe
		unlawful 0 5: none
		content 0 5 5: none
		overdue 0 5: none
		holds 3: 31 32 33
		at 99: none
		carried 99: none`)
	expect(t, "behind queries", results(state(v)), before)
}

// TestP102Told asks for what of the records is told with the setting.
func TestP102Told(t *testing.T) {
	play(t, vestry.New(), `
		receipt 0 10 10 50 4 1 3: record 0 0
		sight 0 12 12 7 4 3: record 0 1
		return 0 0 30 1 50 1 2 20 25: record 0 2
		where 0 4 1 15 30: error 26
		paper 4 2: ok
		where 0 4 1 15 30: 0
		days 0 3 30: error 3
		clash 0 30: error 28
		paper 4 3: ok
		clash 0 30: 2
		withdraw 0 31 1: record 0 3
		clash 0 30: 2
		clash 0 31: error 28
		where 0 4 1 15 31: 50
		days 0 3 31: 20 25
		has 0 50 40 31: 4 3
		glimpse 0 0 5 2 0 5 7: record 0 4
		glimpse 0 0 5 1 0 0 5: record 0 5
		glimpse 0 0 5 1 0 5 9: record 0 6
		shelve 5: ok
		sure 0 5: 5 1
		holes 2: ok
		shelve 7: ok
		hole 0 7 5: 1 2
		shelve 5: ok
		sure 0 4: none
		sure 0 5: 5 1 / 7 2
		lies 0 7 2 5: yes
		lies 0 7 1 5: no
		lies 0 7 1 4: maybe
		look 0 7 4: 1
		glimpse 0 0 9 2 0 0 5: record 0 7
		misread 0 8: error 35
		misread 0 9: 6 8
		sure 0 9: error 34`)
	play(t, vestry.New(), `
		lent 0 10 10 50 4 30 3: record 0 0
		asking 0 31 31 1: record 0 1
		fine 0 1 40: 0 0
		shares 0 1 40: none
		rule 5 2 50: ok
		fine 0 1 40: 54 54
		shares 0 1 40: 50 54
		surety 0 0 40 1 51 10: record 0 2
		shares 0 1 91: 50 360
		shares 0 1 92: 50 356 / 51 10
		payment 0 0 50 1 20: record 0 3
		owed 0 1 92: 346
		overdue 0 31: none
		overdue 0 32: 1
		send 0 3: letters 1
		deliver 0: letters 1
		owed 3 1 92: 346
		owed 2 1 92: error 3`)
}

// TestP102Empty hands in empty lists in the place of nil.
func TestP102Empty(t *testing.T) {
	for _, kind := range []int{api.CmdClear, api.CmdRecords, api.CmdFewest} {
		expect(t, fmt.Sprint("Print ", kind), results(vestry.Print(api.Command{Kind: kind, Args: []int{}})), plainUsages[kind].word, api.OK)
		expect(t, fmt.Sprint("Do ", kind), results(vestry.New().Do(api.Command{Kind: kind, Args: []int{}})), vestry.New().Do(api.Command{Kind: kind}))
	}
	expect(t, "a book", all(api.Book{Records: []api.Record{}}, 5), all(api.Book{}, 5)...)
	for _, text := range []string{"", "\n", "# clear\n", " \n\n", strings.Repeat("#\n", 121)} {
		expect(t, fmt.Sprintf("Run %q", text), results(vestry.Run(text)), "", 0, api.OK)
		expect(t, fmt.Sprintf("Transcript %q", text), results(vestry.Transcript(text)), "", 0, api.OK)
	}
	expect(t, "Open of nothing", results(vestry.Open("")), "", "", 0, api.OK)
	expect(t, "Accept of nothing", results(vestry.Accept("")), 0, api.OK)
}

// TestP102Memory changes results and arguments: the vestry does not change.
func TestP102Memory(t *testing.T) {
	v := play(t, vestry.New(), documentExamples)
	play(t, v, "never 2 1: ok\nstray 1 3 0 0 0 0: ok\nstray 2 3 0 0 0 0: ok\nsew 1 2: ok\nsend 0 1: letters 1\ngive 0 2 1: ok\nwrite 0: ok\ndry 0: ok\npack 0 1: bags 1\ntwice 0: bags 2\ndouble 0: letters 2")
	before := state(v)
	for p := range api.MaxParishes {
		parish, desk := v.Parish(p), v.Desk(p)
		clear(parish.Log)
		clear(parish.Vellum.Sheets)
		clear(desk.Now.Holds)
		for i := range desk.Pages {
			clear(desk.Pages[i].Stock.Holds)
			for to := range api.MaxParishes {
				clear(desk.Pages[i].Stock.Under[to])
				clear(desk.Now.Under[to])
			}
		}
	}
	s := v.Setting()
	for _, c := range s.Stem.Copies {
		clear(c.Words)
	}
	clear(s.Papers)
	clear(s.Rules)
	clear(s.Lying)
	clear(s.Stem.Copies)
	clear(s.Stem.Never)
	clear(s.Heap.Strays)
	clear(s.Heap.Sewn)
	letters, bags := v.Letters(), v.Bags()
	clear(letters[0].Records)
	clear(bags[0].Parcels)
	expect(t, "another letter, another bag", results(letters[1], bags[1]), v.Letters()[1], v.Bags()[1])
	clear(letters)
	clear(bags)
	expect(t, "the vestry behind changes of what it returned", results(state(v)), before)

	c := api.Command{Kind: api.CmdCopy, Args: []int{5, 1, 2, 3, 4, 5, 6}}
	expect(t, "copy", results(v.Do(c)), []string{"ok"})
	expect(t, "copy again", results(v.Do(c)), []string{"ok"})
	before = state(v)
	clear(c.Args)
	expect(t, "the vestry behind a change of the command", results(state(v)), before)
	c = api.Command{Kind: api.CmdFlood, Args: []int{0, 1, 2, 3, 4, 5, 6}}
	v.Do(c)
	expect(t, "the command behind Do", results(c.Args), []int{0, 1, 2, 3, 4, 5, 6})

	b := book(v, 0)
	text := fmt.Sprint(b)
	told := all(b, 50)
	want := fmt.Sprint(told)
	expect(t, "the book", results(fmt.Sprint(b)), text)
	clear(b.Records)
	expect(t, "what it says, behind a change of it", results(fmt.Sprint(told)), want)
	ledger, e := vestry.Ledger(book(v, 0))
	clear(ledger.Receipts[0].Leaves)
	expect(t, "what it says again", results(fmt.Sprint(all(book(v, 0), 50)), e), want, api.OK)
	line := vestry.New().Do(api.Command{Kind: api.CmdRecords})
	line[0] = "x"
	tells(t, vestry.New(), "records", "records 0", "records 0", "records 0", "records 0", "records 0", "records 0")
}

// wildNumber returns any number.
func wildNumber(r *rand.Rand) int {
	return []int{math.MinInt, math.MaxInt, -1, 0, 1, 2, 7, 1000000000, 1000000001, -1000000001, int(r.Uint64())}[r.IntN(11)]
}

// TestP102Wild hands in anything: nothing panics, and nothing is changed by what is not right.
func TestP102Wild(t *testing.T) {
	eachSeed(t, 1001, 300, func(r *rand.Rand) {
		v := vestry.New()
		if r.IntN(3) == 0 {
			v = new(vestry.Vestry)
		}
		for range 60 {
			c := api.Command{Kind: r.IntN(95) - 3}
			if r.IntN(9) == 0 {
				c.Kind = wildNumber(r)
			}
			many := r.IntN(14)
			if u, is := plainUsages[c.Kind]; is && r.IntN(9) > 0 {
				many = len(u.names)
			}
			for range many {
				n := r.IntN(7)
				if r.IntN(6) == 0 {
					n = wildNumber(r)
				}
				c.Args = append(c.Args, n)
			}
			if answer := v.Do(c); len(answer) == 0 {
				t.Errorf("%v has no answer", c)
			}
			line, e := vestry.Print(c)
			if _, _, f := vestry.Parse(line); (e == api.OK) != (f == api.OK) {
				t.Errorf("Print of %v: %v, Parse of that: %v", c, e, f)
			}
		}
		bytes := make([]byte, r.IntN(60))
		for i := range bytes {
			const some = "> <\n#x0 1clear-\xff\x00"
			bytes[i] = some[r.IntN(len(some))]
		}
		text := string(bytes)
		vestry.Parse(text)
		vestry.Run(text)
		vestry.Transcript(text)
		vestry.Open(text)
		vestry.Accept(text)
		vestry.Accept("> " + text)
		var b api.Book
		for range r.IntN(4) {
			b.Records = append(b.Records, api.Record{At: api.Item{Parish: r.IntN(3), No: r.IntN(3)}, Kind: r.IntN(13), Day: wildNumber(r), Known: r.IntN(5), Text: text})
		}
		all(b, wildNumber(r))
		v.Parish(wildNumber(r))
		v.Desk(wildNumber(r))
	})
}
