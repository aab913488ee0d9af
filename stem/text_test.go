package stem_test

import (
	"math/rand/v2"
	"slices"
	"strings"
	"testing"

	"parvise/api"
	"parvise/stem"
)

const exampleText = "costs 2 9 1 4\ncopy 1 10 20 30 40\ncopy 2 10 20 31 40\ncopy 3 10 0 31 40\ncopy 4 10 20 30 50\nnever 2 3\nnever 2 4\nnever 4 1\n"

func written() api.Stem { return example(never(2, 3), never(2, 4), never(4, 1)) }

func TestP46Print(t *testing.T) {
	expect(t, "Print", results(stem.Print(written())), exampleText, api.OK)
	expect(t, "Print of nothing", results(stem.Print(api.Stem{})), "costs 0 0 0 0\n", api.OK)
	expect(t, "Print of a wrong one", results(stem.Print(wrong())), "", api.ErrStem)
}

func TestP46ParseOfPrint(t *testing.T) {
	eachSome(t, 47, 1000, api.MaxCopies, func(r *rand.Rand, s api.Stem) {
		text, e := stem.Print(s)
		expect(t, "Print", results(e), api.OK)
		expect(t, "Parse of Print", results(stem.Parse(text)), s, 0, api.OK)
	})
	text, _ := stem.Print(full())
	expect(t, "Parse of the longest", results(stem.Parse(text)), full(), 0, api.OK)
}

func TestP46Parse(t *testing.T) {
	for _, text := range []string{
		strings.TrimSuffix(exampleText, "\n"),
		"# a stem\n\n   \n" + strings.ReplaceAll(exampleText, " ", "   "),
		strings.ReplaceAll(exampleText, "\n", "  \n#\xff\r\tcosts 1\n") + "#",
		"  " + strings.ReplaceAll(exampleText, "\n", "\n\n   "),
	} {
		expect(t, text, results(stem.Parse(text)), written(), 0, api.OK)
	}
	expect(t, "Parse of costs", results(stem.Parse("costs 0 100 0 7")), api.Stem{Costs: api.Costs{Gain: 100, Turn: 7}}, 0, api.OK)
}

// TestP46AnyOrder lays all lines but the first one in any order.
func TestP46AnyOrder(t *testing.T) {
	r := rand.New(rand.NewPCG(48, 4))
	lines := strings.SplitAfter(strings.TrimSuffix(exampleText, "\n"), "\n")
	lines[len(lines)-1] += "\n"
	for range 50 {
		r.Shuffle(len(lines)-1, func(i, j int) { lines[i+1], lines[j+1] = lines[j+1], lines[i+1] })
		text := strings.Join(lines, "")
		expect(t, text, results(stem.Parse(text)), written(), 0, api.OK)
	}
}

func TestP46WrongForm(t *testing.T) {
	const costs = "costs 2 9 1 4\n"
	words := strings.Repeat(" 7", api.MaxWords)
	for _, c := range []struct {
		text string
		line int
	}{
		{"costs", 1}, {"costs 2 9 1", 1}, {"costs 2 9 1 4 0", 1}, {"cost 2 9 1 4", 1}, {"Costs 2 9 1 4", 1}, {"2 9 1 4", 1},
		{"costs 2 9 1 04", 1}, {"costs 2 9 1 -4", 1}, {"costs 2 9 1 +4", 1}, {"costs 2 9 1 1000", 1}, {"costs 2 9 1 x", 1}, {"costs -0 9 1 4", 1},
		{"costs 2 9 1 4\r\n", 1}, {"costs\t2 9 1 4", 1}, {"costs 2 9 1 4\v", 1}, {"costs 2 9 1 4\u00a0", 1}, {"costs 2 9 1 \u0664", 1}, {" # costs", 1},
		{"copy 1 1\n" + costs, 1}, {"never 1 2\n" + costs, 1}, {"#\n\ncopy 1 1\n", 3},
		{costs + costs, 2}, {costs + "copy 1 1\n\n" + costs, 4},
		{costs + "copy", 2}, {costs + "copy 1", 2}, {costs + "copy 1" + words + " 7", 2}, {costs + "copy 1 1000", 2}, {costs + "copy 0001 1", 2},
		{costs + "copy 01 1", 2}, {costs + "copy 1 00", 2}, {costs + "copy 1 1-", 2}, {costs + "copy 1 -1", 2}, {costs + "copies 1 1", 2}, {costs + "copy 1 1.0", 2},
		{costs + "never", 2}, {costs + "never 1", 2}, {costs + "never 1 2 3", 2}, {costs + "never 1 1000", 2}, {costs + "Never 1 2", 2}, {costs + "always 1 2", 2},
		{costs + "copy 1 1\ncopy 1 1\n#\nx\ny", 5}, {costs + "never 8 9\nx", 3},
		{"", 1}, {"\n", 2}, {"\n\n", 3}, {"#", 2}, {"# costs 1 2 3 4\n", 2}, {" ", 2}, {"#\n ", 3}, {strings.Repeat("\n", api.MaxStemText), api.MaxStemText + 1},
		{costs + strings.Repeat("\n", 7900) + "x", 7902},
	} {
		expect(t, c.text, results(stem.Parse(c.text)), api.Stem{}, c.line, api.ErrText)
	}
	s := api.Stem{Costs: api.Costs{Lose: 2, Gain: 9, Like: 1, Turn: 4}, Copies: []api.Copy{copied(1, slices.Repeat([]int{7}, api.MaxWords)...)}}
	expect(t, "Parse of 16 words", results(stem.Parse(costs+"copy 1"+words)), s, 0, api.OK)
}

func TestP46NotValid(t *testing.T) {
	const costs = "costs 2 9 1 4\n"
	eight := costs
	for _, id := range []string{"1", "2", "3", "4", "5", "6", "7", "8"} {
		eight += "copy " + id + " 1\n"
	}
	for _, text := range []string{
		"costs 2 9 1 101", "costs 999 9 1 4", costs + "copy 0 1", costs + "copy 100 1", costs + "copy 1 100",
		costs + "copy 1 1\ncopy 1 1", costs + "copy 1 1\ncopy 2 1\ncopy 1 2", costs + "copy 1 1\ncopy 2 1 1", eight,
		costs + "never 1 2", costs + "copy 1 1\nnever 1 1", costs + "copy 1 1\nnever 0 1", costs + "copy 1 1\ncopy 2 1\nnever 1 2\nnever 1 2",
		costs + strings.Repeat("never 1 2\n", 700), costs + strings.Repeat("copy 1 1\n", 700),
	} {
		expect(t, text, results(stem.Parse(text)), api.Stem{}, 0, api.ErrStem)
	}
	most := exampleText + "#" + strings.Repeat("x", api.MaxStemText-len(exampleText)-1)
	expect(t, "Parse of 8000 bytes", results(stem.Parse(most)), written(), 0, api.OK)
	expect(t, "Parse of 8001 bytes", results(stem.Parse(most+"x")), api.Stem{}, 0, api.ErrLong)
	expect(t, "Parse of 8001 wrong bytes", results(stem.Parse("x\n"+most)), api.Stem{}, 0, api.ErrLong)
}
