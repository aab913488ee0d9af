package vestry_test

import (
	"fmt"
	"math"
	"math/rand/v2"
	"strconv"
	"strings"
	"testing"

	"parvise/api"
	"parvise/vestry"
)

// grammar is the chapter's table of commands: the kind of the first word of a line (the next ones have the next kinds, or those that are named), the words, and their numbers.
const grammar = `
	1: paper: ID LEAVES
	2: rule: FROM DAILY LEAF
	3: holes: N
	4: shelve: PAPER
	5: copy: ID WORD WORD WORD WORD WORD WORD
	6: costs: LOSE GAIN LIKE TURN
	7: never: FROM TO
	8: stray: ID PAPER FIRST CATCH HOLES UNSURE
	9: sew: FROM TO
	10: clear:
	11: deed: PARISH DAY KNOWN KIND LOCK PERSON LO HI
	12: receipt: PARISH DAY KNOWN BORROWER PAPER LEAF MANY
	13: return: PARISH DAY KNOWN RECEIPT PERSON LEAF MANY LO HI
	14: sight: PARISH DAY KNOWN PERSON PAPER LEAF
	15: glimpse: PARISH DAY KNOWN HOLE MARK MARK MARK
	16: opening: PARISH DAY KNOWN REGISTER THROUGH PERSON PERSON PERSON IN IN OUT OUT
	17: lent: PARISH DAY KNOWN BORROWER PAPER DUE LEAVES
	18: back: PARISH DAY KNOWN LOAN LEAVES LO HI
	19: asking: PARISH DAY KNOWN LOAN
	20: payment: PARISH DAY KNOWN LOAN PENCE
	21: surety: PARISH DAY KNOWN LOAN PERSON WORTH
	22: withdraw: PARISH KNOWN NO
	31: send: PARISH TO
	32 33 34: deliver lose double: N
	35: flood: PARISH N N N N N N
	36: renew: PARISH
	41: give: PARISH PAPER TO
	42 43: write dry: PARISH
	44: soak: PARISH N
	45: pack: PARISH TO
	46 47 48: open drop twice: N
	51 52: holder hand: PARISH LOCK DAY KNOWN
	53: office: PARISH PERSON DAY KNOWN
	54: lawful: PARISH PERSON PERSON PERSON DAY KNOWN
	55: openers: PARISH DAY KNOWN
	56: where: PARISH PAPER LEAF DAY KNOWN
	57: whole: PARISH PAPER DAY KNOWN
	58: days: PARISH SOURCE KNOWN
	59: has: PARISH PERSON DAY KNOWN
	60 63 65: clash sure misread: PARISH KNOWN
	61: lies: PARISH PAPER HOLE KNOWN
	62 64: hole look: PARISH PAPER KNOWN
	66 68 69 70 71: fewest roots agreed pedigree prove:
	67: parent: FROM TO
	72 73 74: order orders next: PAPER
	75: place: ID
	76 79: doubt unlawful: PARISH KNOWN
	77: true: PARISH SOURCE KNOWN
	78: inside: PARISH PAPER DAY KNOWN
	80: content: PARISH DAY KNOWN
	81 82 83: fine owed shares: PARISH LOAN KNOWN
	84: overdue: PARISH KNOWN
	85: holds: PARISH
	86 87: at carried: PAPER
	88: records:`

// usage is the word of a command, and what its numbers are.
type usage struct {
	word  string
	names []string
}

// usages returns the commands by their kinds.
func usages() map[int]usage {
	all := map[int]usage{}
	for line := range strings.Lines(grammar) {
		part := strings.Split(strings.TrimSpace(line), ":")
		if len(part) < 3 {
			continue
		}
		words := strings.Fields(part[1])
		for i, kind := range strings.Fields(part[0]) {
			k, _ := strconv.Atoi(kind)
			all[k] = usage{words[i], strings.Fields(part[2])}
		}
	}
	return all
}

// someNumber returns one of a command.
func someNumber(r *rand.Rand) int {
	return []int{0, 1, -1, api.MaxNumber, -api.MaxNumber, r.IntN(100), r.IntN(2*api.MaxNumber+1) - api.MaxNumber}[r.IntN(7)]
}

func TestP101Words(t *testing.T) {
	all := usages()
	expect(t, "how many kinds", results(len(all)), 74)
	for kind := -3; kind < 120; kind++ {
		u, is := all[kind]
		for many := range 15 {
			args := make([]int, many)
			line := u.word
			for i := range args {
				args[i] = 1000000000 - i
				line += fmt.Sprint(" ", args[i])
			}
			c := api.Command{Kind: kind, Args: args}
			if !is || many != len(u.names) {
				expect(t, fmt.Sprint("Print ", c), results(vestry.Print(c)), "", api.ErrWords)
				expect(t, fmt.Sprint("Do ", c), results(vestry.New().Do(c)), refusal(api.ErrWords))
			} else {
				expect(t, fmt.Sprint("Print ", c), results(vestry.Print(c)), line, api.OK)
				expect(t, fmt.Sprint("Parse ", line), results(vestry.Parse(line)), c, 0, api.OK)
			}
			if is && many != len(u.names) {
				expect(t, fmt.Sprint("Parse ", line), results(vestry.Parse(line)), api.Command{}, 1+min(many, len(u.names)), api.ErrWords)
			}
		}
	}
	for _, kind := range []int{math.MinInt, math.MaxInt} {
		expect(t, fmt.Sprint("Print ", kind), results(vestry.Print(api.Command{Kind: kind})), "", api.ErrWords)
	}
}

func TestP101Numbers(t *testing.T) {
	for word, n := range map[string]int{"0": 0, "7": 7, "-7": -7, "10": 10, "-10": -10, "1000000000": 1000000000, "-1000000000": -1000000000, "999999999": 999999999} {
		c := api.Command{Kind: api.CmdHoles, Args: []int{n}}
		expect(t, "Parse holes "+word, results(vestry.Parse("holes "+word)), c, 0, api.OK)
		expect(t, "Print holes "+word, results(vestry.Print(c)), "holes "+word, api.OK)
	}
	for _, word := range []string{
		"-0", "00", "01", "-01", "+1", "--1", "-", "1-", "1_0", "1.0", "0x1", "1e3", "x", "1x", "\t1", "1\t", "1\n", "\u0663", "1000000001", "-1000000001", "9999999999", "10000000000",
		"99999999999999999999", "18446744073709551616", "-18446744073709551616", "-99999999999999999999", "ok",
	} {
		expect(t, "Parse holes "+word, results(vestry.Parse("holes "+word)), api.Command{}, 1, api.ErrWords)
		expect(t, "Parse never 1 "+word, results(vestry.Parse("never 1 "+word)), api.Command{}, 2, api.ErrWords)
		expect(t, "Parse never "+word, results(vestry.Parse("never "+word)), api.Command{}, 1, api.ErrWords)
	}
	for _, n := range []int{1000000001, -1000000001, math.MinInt, math.MaxInt} {
		for _, c := range []api.Command{{Kind: api.CmdHoles, Args: []int{n}}, {Kind: api.CmdNever, Args: []int{1, n}}, {Kind: api.CmdHolds, Args: []int{n}}} {
			expect(t, fmt.Sprint("Print ", c), results(vestry.Print(c)), "", api.ErrWords)
			expect(t, fmt.Sprint("Do ", c), results(vestry.New().Do(c)), refusal(api.ErrWords))
		}
	}
}

func TestP101Lines(t *testing.T) {
	lawful := api.Command{Kind: api.CmdLawful, Args: []int{0, 1, 2, 3, 4, 5}}
	for _, c := range []struct {
		line string
		want api.Command
		at   int
		e    api.Errno
	}{
		{"lawful 0 1 2 3 4 5", lawful, 0, api.OK},
		{"  lawful   0 1 2  3 4 5 ", lawful, 0, api.OK},
		{"clear", api.Command{Kind: api.CmdClear}, 0, api.OK},
		{" clear ", api.Command{Kind: api.CmdClear}, 0, api.OK},
		{"true 0 1", api.Command{}, 3, api.ErrWords},
		{"true  0  1 ", api.Command{}, 3, api.ErrWords},
		{"true", api.Command{}, 1, api.ErrWords},
		{"true x", api.Command{}, 1, api.ErrWords},
		{"true 0 1 2 3", api.Command{}, 4, api.ErrWords},
		{"true 0 1 2 x", api.Command{}, 4, api.ErrWords},
		{"true 0 01 2 3", api.Command{}, 2, api.ErrWords},
		{"clear 1", api.Command{}, 1, api.ErrWords},
		{"clear #", api.Command{}, 1, api.ErrWords},
		{"", api.Command{}, 0, api.ErrWords},
		{"   ", api.Command{}, 0, api.ErrWords},
		{"# clear", api.Command{}, 0, api.ErrWords},
		{" # clear", api.Command{}, 0, api.ErrWords},
		{"#", api.Command{}, 0, api.ErrWords},
		{"Clear", api.Command{}, 0, api.ErrWords},
		{"clea", api.Command{}, 0, api.ErrWords},
		{"clears", api.Command{}, 0, api.ErrWords},
		{"clear\n", api.Command{}, 0, api.ErrWords},
		{"clear\r", api.Command{}, 0, api.ErrWords},
		{"\tclear", api.Command{}, 0, api.ErrWords},
		{"clear\nclear", api.Command{}, 0, api.ErrWords},
		{"\nclear", api.Command{}, 0, api.ErrWords},
		{"holes 1\nclear", api.Command{}, 1, api.ErrWords},
		{"holes 1 \n", api.Command{}, 2, api.ErrWords},
		{"\xff 1", api.Command{}, 0, api.ErrWords},
		{"> clear", api.Command{}, 0, api.ErrWords},
		{"1 clear", api.Command{}, 0, api.ErrWords},
		{"sentinel", api.Command{}, 0, api.ErrWords},
		{"withdraws 0 1 2", api.Command{}, 0, api.ErrWords},
		{strings.Repeat(" ", 195) + "clear", api.Command{Kind: api.CmdClear}, 0, api.OK},
		{strings.Repeat(" ", 196) + "clear", api.Command{}, 0, api.ErrLong},
		{strings.Repeat("x", 200), api.Command{}, 0, api.ErrWords},
		{strings.Repeat("x", 201), api.Command{}, 0, api.ErrLong},
		{"#" + strings.Repeat(" ", 199), api.Command{}, 0, api.ErrWords},
		{"#" + strings.Repeat(" ", 200), api.Command{}, 0, api.ErrLong},
		{strings.Repeat(" ", 200), api.Command{}, 0, api.ErrWords},
		{strings.Repeat(" ", 201), api.Command{}, 0, api.ErrLong},
		{"clear" + strings.Repeat(" 1", 97), api.Command{}, 1, api.ErrWords},
		{"clear" + strings.Repeat(" 1", 98), api.Command{}, 0, api.ErrLong},
	} {
		expect(t, fmt.Sprintf("Parse %q", c.line), results(vestry.Parse(c.line)), c.want, c.at, c.e)
	}
}

// TestP101Print prints right commands, and parses them, also with more spaces, and with a word that is wrong, missing, or one too many.
func TestP101Print(t *testing.T) {
	all := usages()
	eachSeed(t, 1011, 5000, func(r *rand.Rand) {
		kind := 1 + r.IntN(88)
		u, is := all[kind]
		if !is {
			return
		}
		c := api.Command{Kind: kind}
		for range u.names {
			c.Args = append(c.Args, someNumber(r))
		}
		line, e := vestry.Print(c)
		expect(t, fmt.Sprint("Print ", c), results(e), api.OK)
		expect(t, "Parse "+line, results(vestry.Parse(line)), c, 0, api.OK)
		words := strings.Split(line, " ")
		expect(t, "the words of "+line, results(words[0], len(words)), u.word, 1+len(u.names))
		wide := " " + strings.Join(words, "  ")
		if len(wide) <= api.MaxLine {
			expect(t, "Parse "+wide, results(vestry.Parse(wide)), c, 0, api.OK)
		}
		at := r.IntN(len(words))
		expect(t, "Parse with fewer words", results(vestry.Parse(strings.Join(words[:at], " "))), api.Command{}, at, api.ErrWords)
		expect(t, "Parse with one more", results(vestry.Parse(line+" 7")), api.Command{}, len(words), api.ErrWords)
		words[at] += "x"
		expect(t, "Parse with a wrong one", results(vestry.Parse(strings.Join(words, " "))), api.Command{}, at, api.ErrWords)
		before := fmt.Sprint(c)
		vestry.New().Do(c)
		expect(t, "the command behind Do", results(fmt.Sprint(c)), before)
	})
}
