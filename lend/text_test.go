package lend_test

import (
	"fmt"
	"math"
	"math/rand/v2"
	"strings"
	"testing"

	"parvise/api"
	"parvise/lend"
)

const exampleText = `holds 3 7 999
under 0 4 10
under 0 5 7
under 3 99998 7
under 3 99999 999
under 5 1 1
sent 5 0 0 99999 9 1
taken 0 4 0 99999 1 2
`

const emptyText = "holds\nsent 0 0 0 0 0 0\ntaken 0 0 0 0 0 0\n"

func TestP97Print(t *testing.T) {
	expect(t, "Print", results(lend.Print(example())), exampleText, api.OK)
	expect(t, "Print of nothing", results(lend.Print(api.Stock{})), emptyText, api.OK)
	nobodys := example()
	nobodys.Taken[2] = 1
	for name, s := range map[string]api.Stock{"what is of nobody": nobodys, "a paper that is none": {Holds: papers(0)}, "papers that fall": {Holds: papers(2, 1)}} {
		expect(t, "Print of "+name, results(lend.Print(s)), "", api.ErrStock)
	}
	text, e := lend.Print(full())
	expect(t, "Print of the longest", results(text, e, len(text) <= api.MaxStocked), plainText(full()), api.OK, true)
}

func TestP97ParseOfPrint(t *testing.T) {
	eachSeed(t, 971, 2000, func(r *rand.Rand) {
		me := r.IntN(6)
		s := someStock(r, me)
		text, e := lend.Print(s)
		expect(t, "Print", results(e), api.OK)
		expect(t, "Parse of Print", results(lend.Parse(me, text)), s, 0, api.OK)
	})
	text, _ := lend.Print(full())
	expect(t, "Parse of the longest", results(lend.Parse(2, text)), full(), 0, api.OK)
}

// TestP97Sum changes the sums of pages: none of them is right.
func TestP97Sum(t *testing.T) {
	eachSeed(t, 972, 200, func(r *rand.Rand) {
		me := r.IntN(6)
		p := page(someStock(r, me), r.IntN(100000))
		expect(t, "CheckPage", results(lend.CheckPage(me, p)), api.OK)
		for range 20 {
			q := p
			q.Sum = []int{r.IntN(api.PageSum), p.Sum + 1, p.Sum - 1, (p.Sum + 1) % api.PageSum, p.Sum + api.PageSum, p.Sum - api.PageSum, -p.Sum - 1, r.Int()}[r.IntN(8)]
			expect(t, fmt.Sprint("CheckPage with ", q.Sum), results(lend.CheckPage(me, q)), verdict(q.Sum == p.Sum, api.ErrPage))
		}
	})
}

func TestP97Parse(t *testing.T) {
	for _, text := range []string{
		exampleText,
		strings.TrimSuffix(exampleText, "\n"),
		"# a stock\n\n   \n" + strings.ReplaceAll(exampleText, " ", "   "),
		strings.ReplaceAll(exampleText, "\n", "  \n#\xff\r\tholds 1\n") + "#",
		"  " + strings.ReplaceAll(exampleText, "\n", "\n\n   "),
	} {
		expect(t, text, results(lend.Parse(2, text)), example(), 0, api.OK)
	}
	for me := range api.MaxParishes {
		expect(t, fmt.Sprint("Parse of nothing of ", me), results(lend.Parse(me, emptyText)), api.Stock{}, 0, api.OK)
	}
	s := api.Stock{Sent: [6]int{5: 1}}
	s.Under[5] = parcels(1, 7)
	expect(t, "Parse of a parcel to the last one", results(lend.Parse(0, "holds\nunder 5 1 7\nsent 0 0 0 0 0 1\ntaken 0 0 0 0 0 0")), s, 0, api.OK)
}

func TestP97WrongForm(t *testing.T) {
	const zeros = " 0 0 0 0 0 0\n"
	const under = "holds 3\nunder 1 1 7\n"
	for _, c := range []struct {
		text string
		line int
	}{
		// Lines are missing.
		{"", 1}, {"\n", 2}, {"\n\n", 3}, {"# holds", 2}, {" ", 2}, {"holds", 2}, {"holds\n", 2}, {"holds\n\n#\n", 4}, {"holds 3\nunder 1 1 7", 3}, {under, 3}, {"holds\nsent" + zeros, 3}, {"holds\nsent 0 0 0 0 0 0", 3}, {"holds\nsent" + zeros + "# taken" + zeros, 4}, {"holds\nsent" + zeros + " ", 4},
		// Lines that are not the next one.
		{"x", 1}, {"sent" + zeros, 1}, {"taken" + zeros, 1}, {"under 1 1 7", 1}, {"\n#\nx\ny", 3}, {"Holds", 1}, {"hold", 1}, {"holds\nholds", 2}, {"holds\n\nx", 3}, {"holds\ntaken" + zeros, 2}, {under + "taken" + zeros, 3}, {under + "holds", 3},
		{"holds\nsent" + zeros + "sent" + zeros, 3}, {"holds\nsent" + zeros + "under 1 1 7", 3}, {"holds\nsent" + zeros + "holds", 3}, {"holds\nsent" + zeros + "x", 3},
		{emptyText + "taken" + zeros, 4}, {emptyText + "holds", 4}, {emptyText + "under 1 1 7", 4}, {emptyText + "sent" + zeros, 4}, {emptyText + "#\n\nx", 6}, {emptyText + emptyText, 4},
		{"1 holds", 1}, {" # holds\n" + emptyText, 1}, {"holds # 3", 1}, {"holds\nsent 0 0 0 0 0 0 # 0", 2},
		// Numbers of another form.
		{"holds 03", 1}, {"holds 3 007", 1}, {"holds -3", 1}, {"holds +3", 1}, {"holds x", 1}, {"holds 3 x", 1}, {"holds 3,7", 1}, {"holds -0", 1}, {"holds 00", 1}, {"holds 100000", 1}, {"holds 000001", 1}, {"holds 99999999999999999999", 1}, {"holds 18446744073709551619", 1}, {"holds\t3", 1}, {"holds 3\r\n", 1}, {"holds 3\v", 1}, {"holds \u0663", 1}, {"holds 3 holds 7", 1}, {"holds\u00a03", 1},
		{"holds\nunder", 2}, {"holds\nunder 1", 2}, {"holds\nunder 1 1", 2}, {"holds\nunder 1 1 7 7", 2}, {"holds\nunder 6 1 7", 2}, {"holds\nunder -1 1 7", 2}, {"holds\nunder 1 -1 7", 2}, {"holds\nunder 1 1 -7", 2}, {"holds\nunder 99999 1 7", 2}, {"holds\nunder 1 100000 7", 2}, {"holds\nunder 1 1 100000", 2}, {"holds\nunder 01 1 7", 2}, {"holds\nUnder 1 1 7", 2},
		{"holds\nunder 1 1 7\nunder 0 1 7", 3}, {"holds\nunder 1 1 7\nunder 3 1 7\n#\nunder 2 1 7", 5}, {"holds\nunder 5 1 7\nunder 0 1 7", 3}, {"holds\nunder 1 1 7\nunder 6 1 7", 3},
		{"holds\nsent", 2}, {"holds\nsent 0 0 0 0 0", 2}, {"holds\nsent 0 0 0 0 0 0 0", 2}, {"holds\nsent 0 0 0 -1 0 0", 2}, {"holds\nsent 0 0 0 0 0 100000", 2}, {"holds\nsent 00 0 0 0 0 0", 2}, {"holds\nSent" + zeros, 2},
		{"holds\nsent" + zeros + "taken", 3}, {"holds\nsent" + zeros + "taken 0 0 0 0 0", 3}, {"holds\nsent" + zeros + "taken 0 0 0 0 0 0 0", 3}, {"holds\nsent" + zeros + "taken 0 0 0 0 0 x", 3}, {"holds\nsent" + zeros + "taken 0 0 0 0 0 100000", 3}, {"holds\nsent" + zeros + "Taken" + zeros, 3},
		// Ahead of what is wrong nothing needs to be valid.
		{"holds 7 7 0\nunder 1 0 0\nsent 1 1 1 1 1 1\ntaken 1 1 1 1 1 1\nx", 5}, {strings.Repeat("\n", 7990) + "x", 7991},
	} {
		expect(t, fmt.Sprintf("Parse of %q", c.text), results(lend.Parse(2, c.text)), api.Stock{}, c.line, api.ErrText)
		expect(t, fmt.Sprintf("Parse, for nobody, of %q", c.text), results(lend.Parse(6, c.text)), api.Stock{}, c.line, api.ErrText)
	}
}

func TestP97NotValid(t *testing.T) {
	const rest = "sent 0 0 0 0 0 0\ntaken 0 0 0 0 0 0\n"
	const under, sent = "holds\nunder 1 4 7\n", "sent 0 4 0 0 0 0\ntaken 0 0 0 0 0 0\n"
	for _, text := range []string{
		"holds 0\n" + rest, "holds 1000\n" + rest, "holds 99999\n" + rest, "holds 7 7\n" + rest, "holds 7 3\n" + rest, plainText(api.Stock{Holds: upTo(41)}),
		under + rest, under + "under 1 6 7\n" + sent, under + "under 1 4 7\n" + sent, under + "under 1 5 7\n" + sent, "holds\nunder 1 4 0\n" + sent, "holds\nunder 1 4 1000\n" + sent, "holds\nunder 1 0 7\n" + sent, "holds\nunder 1 0 7\n" + rest,
		"holds\nunder 2 1 7\nsent 0 0 1 0 0 0\ntaken 0 0 0 0 0 0\n", "holds\nsent 0 0 1 0 0 0\ntaken 0 0 0 0 0 0\n", "holds\nsent 0 0 0 0 0 0\ntaken 0 0 1 0 0 0\n",
	} {
		expect(t, fmt.Sprintf("Parse of %q", text), results(lend.Parse(2, text)), api.Stock{}, 0, api.ErrStock)
	}
	for _, me := range []int{0, 1, 3, 4, 5, 6, -1, math.MinInt, math.MaxInt} {
		expect(t, fmt.Sprint("Parse for ", me), results(lend.Parse(me, exampleText)), api.Stock{}, 0, api.ErrStock)
	}
	most := exampleText + "#" + strings.Repeat("x", api.MaxStocked-len(exampleText)-1)
	expect(t, "Parse of 8000 bytes", results(lend.Parse(2, most)), example(), 0, api.OK)
	expect(t, "Parse of 8001 bytes", results(lend.Parse(2, most+"x")), api.Stock{}, 0, api.ErrLong)
	expect(t, "Parse of 8001 wrong bytes", results(lend.Parse(7, "x\n"+most)), api.Stock{}, 0, api.ErrLong)
}
