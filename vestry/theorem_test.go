package vestry_test

import (
	"fmt"
	"math/rand/v2"
	"strings"
	"testing"

	"parvise/api"
	"parvise/vestry"
)

// isQuery reports whether a command of this kind only asks.
func isQuery(kind int) bool { return kind >= api.CmdHolder }

// someVestry does random commands, and returns the vestry, and the plain one.
func someVestry(t *testing.T, r *rand.Rand, many int) (*vestry.Vestry, *plainVestry) {
	t.Helper()
	v, p := vestry.New(), newPlain()
	someScript(t, r, many, p, func(c api.Command, _ []string) { v.Do(c) })
	return v, p
}

// exchange lets two parishes send each other letters until none has records.
func exchange(t *testing.T, v *vestry.Vestry, a, b int) {
	t.Helper()
	for len(v.Letters()) > 0 {
		tells(t, v, "lose 0", fmt.Sprint("letters ", len(v.Letters())-1))
	}
	tells(t, v, fmt.Sprint("send ", a, " ", b), "letters 1")
	tells(t, v, fmt.Sprint("send ", b, " ", a), "letters 2")
	for range 200 {
		if len(v.Letters()) == 0 {
			return
		}
		v.Do(command(t, "deliver 0"))
	}
	t.Errorf("there are %d letters still", len(v.Letters()))
}

// askedOf returns random queries of a parish, which are asked for again and again.
func askedOf(r *rand.Rand, p *plainVestry, place, many int) []api.Command {
	var l []api.Command
	all := groups()
	for len(l) < many {
		m := &maker{r, p, all[r.IntN(len(all))]}
		c := m.next()
		if names := plainUsages[c.Kind].names; isQuery(c.Kind) && len(names) > 1 && names[0] == "PARISH" {
			c.Args[0] = place
			l = append(l, c)
		}
	}
	return l
}

// TestP103Parishes lets two parishes exchange all that they wrote: both tell the same.
func TestP103Parishes(t *testing.T) {
	told := 0
	eachSeed(t, 1031, 60, func(r *rand.Rand) {
		v, p := vestry.New(), newPlain()
		someScript(t, r, 120, p, func(c api.Command, _ []string) {
			if c.Kind != api.CmdFlood && c.Kind != api.CmdDeliver {
				v.Do(c)
			}
		})
		if len(v.Parish(0).Log)+len(v.Parish(1).Log) > api.MaxRecords {
			return
		}
		exchange(t, v, 0, 1)
		expect(t, "the books of both", results(book(v, 0)), book(v, 1))
		for _, c := range askedOf(r, p, 0, 80) {
			want := v.Do(c)
			c.Args[0] = 1
			expect(t, fmt.Sprint(plainUsages[c.Kind].word, c.Args), results(v.Do(c)), want)
			if !strings.HasPrefix(want[0], "error") {
				told++
			}
		}
	})
	if told < 1000 {
		t.Errorf("just %d answers were told", told)
	}
}

// TestP105Refused does random commands: what is refused, and what only asks, changes nothing, but that a letter is gone.
func TestP105Refused(t *testing.T) {
	refused, asked, lost := 0, 0, 0
	eachSeed(t, 1051, 150, func(r *rand.Rand) {
		v, p := someVestry(t, r, r.IntN(120))
		for range r.IntN(2) * 70 {
			v.Do(command(t, "asking 1 2 3 4"))
			v.Do(command(t, "send 0 1"))
		}
		m := newMaker(r, p)
		for range 40 {
			c := m.next()
			if r.IntN(5) == 0 && len(c.Args) > 0 {
				c.Args[r.IntN(len(c.Args))] = wildNumber(r)
			}
			before, letters := state(v), v.Letters()
			answer := v.Do(c)
			failed := strings.HasPrefix(answer[0], "error")
			switch {
			case failed && c.Kind == api.CmdDeliver && len(letters) > 0 && len(v.Letters()) == len(letters)-1:
				lost++
			case failed || isQuery(c.Kind):
				expect(t, fmt.Sprint("the vestry behind ", c, answer), results(state(v)), before)
				if failed {
					refused++
				} else {
					asked++
				}
			}
		}
	})
	if min(refused, asked) < 500 || lost < 20 {
		t.Errorf("%d commands were refused, %d only asked, %d letters were lost", refused, asked, lost)
	}
}

// TestP106AsKnown lets more become known, and end: what is told as known before is the same.
func TestP106AsKnown(t *testing.T) {
	noted, told := 0, 0
	eachSeed(t, 1061, 120, func(r *rand.Rand) {
		v, p := someVestry(t, r, 90)
		day := between(r, 10, 50)
		var asked []api.Command
		var answers [][]string
		for _, c := range askedOf(r, p, 0, 60) {
			c.Args[len(c.Args)-1] = between(r, 0, day)
			asked = append(asked, c)
			answers = append(answers, v.Do(c))
		}
		openings, e := vestry.Openings(book(v, 0), day)
		expect(t, "Openings", results(e), api.OK)
		m := newMaker(r, p)
		for range 40 {
			kind := between(r, api.RecDeed, api.RecSurety)
			c := api.Command{Kind: kind + api.CmdDeed - api.RecDeed, Args: m.record(kind)}
			c.Args[0], c.Args[2] = 0, max(c.Args[2], day+between(r, 1, 30))
			if r.IntN(3) == 0 {
				c = api.Command{Kind: api.CmdWithdraw, Args: []int{0, day + between(r, 1, 30), r.IntN(40)}}
			}
			if answer := v.Do(c); strings.HasPrefix(answer[0], "record") {
				noted++
			}
		}
		for i, c := range asked {
			expect(t, fmt.Sprint(plainUsages[c.Kind].word, c.Args), results(v.Do(c)), answers[i])
			if !strings.HasPrefix(answers[i][0], "error") {
				told++
			}
		}
		got, e := vestry.Openings(book(v, 0), day)
		for i := range openings {
			openings[i].Until = 0
		}
		for i := range got {
			got[i].Until = 0
		}
		expect(t, "Openings", results(got, e), openings, api.OK)
	})
	if noted < 1000 || told < 2000 {
		t.Errorf("%d records, %d answers", noted, told)
	}
}

// TestP107OnePlace sends papers, and loses, floods, delays and doubles: each is at one parish, or carried from one to one other.
func TestP107OnePlace(t *testing.T) {
	carried, away := 0, 0
	eachSeed(t, 1071, 120, func(r *rand.Rand) {
		v := vestry.New()
		all := groups()
		p := newPlain()
		m := &maker{r, p, all[len(all)-1]}
		for range 150 {
			c := m.next()
			if c.Kind < api.CmdGive || c.Kind > api.CmdTwice {
				continue
			}
			p.do(c)
			expect(t, fmt.Sprint(c), results(len(v.Do(c))), 1)
			if r.IntN(4) > 0 {
				continue
			}
			for parish := range api.MaxParishes {
				for n := range 3 {
					paper := 10*parish + 1 + n
					at := v.Do(command(t, fmt.Sprint("at ", paper)))
					ways := v.Do(command(t, fmt.Sprint("carried ", paper)))
					places := strings.Fields(strings.Join(at, " "))
					if len(at) != 1 || len(ways) != 1 || (at[0] == "none") == (ways[0] == "none") || at[0] != "none" && len(places) != 1 {
						t.Fatalf("behind %v the paper %d is at %v, and carried %v", c, paper, at, ways)
					}
					if ways[0] != "none" {
						carried++
					} else if at[0] != fmt.Sprint(parish) {
						away++
					}
				}
			}
		}
	})
	if min(carried, away) < 300 {
		t.Errorf("%d papers were carried, %d were at another parish", carried, away)
	}
}
