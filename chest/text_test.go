package chest_test

import (
	"math/rand/v2"
	"strings"
	"testing"

	"parvise/api"
	"parvise/chest"
)

const exampleText = `opening 1 1 10 30 1 0 0 in 5 7 out 9
opening 2 1 40 60 0 0 0 in 5 out 7
opening 3 2 20 45 2 8 0 in 9 out 5
opening 4 2 50 70 1 0 0 in 5 9 out
opening 5 2 5 12 0 20 0 in 9 out
`

func TestP67Print(t *testing.T) {
	expect(t, "Print", results(chest.Print(example())), exampleText, api.OK)
	expect(t, "Print of nothing", results(chest.Print(nil)), "", api.OK)
	expect(t, "Print of what names nothing", results(chest.Print([]api.Opening{during(1, 2, opening(1, 1, 0, 3, nil, nil))})), "opening 1 1 0 3 2 1 2 in out\n", api.OK)
	expect(t, "Print of what is only out", results(chest.Print([]api.Opening{opening(1, 1, 0, 3, nil, papers(1, 2))})), "opening 1 1 0 3 2 0 0 in out 1 2\n", api.OK)
	expect(t, "Print of wrong ones", results(chest.Print(wrong())), "", api.ErrRegister)
}

func TestP67ParseOfPrint(t *testing.T) {
	eachSome(t, 67, 1000, 12, 24, func(r *rand.Rand, l []api.Opening, known int) {
		text, e := chest.Print(l)
		expect(t, "Print", results(e), api.OK)
		expect(t, "Parse of Print", results(chest.Parse(text)), l, 0, api.OK)
	})
	text, _ := chest.Print(full())
	expect(t, "Parse of the longest", results(chest.Parse(text)), full(), 0, api.OK)
}

func TestP67Parse(t *testing.T) {
	for _, text := range []string{
		exampleText,
		strings.TrimSuffix(exampleText, "\n"),
		"# openings\n\n   \n" + strings.ReplaceAll(exampleText, " ", "   "),
		strings.ReplaceAll(exampleText, "\n", "  \n#\xff\r\topening 1\n") + "#",
		"  " + strings.ReplaceAll(exampleText, "\n", "\n\n   "),
	} {
		expect(t, text, results(chest.Parse(text)), example(), 0, api.OK)
	}
	for _, text := range []string{"", "\n", " ", "#", "# opening\n\n  \n", strings.Repeat("\n", api.MaxChestText)} {
		expect(t, text, results(chest.Parse(text)), none, 0, api.OK)
	}
}

func TestP67WrongForm(t *testing.T) {
	const good = "opening 1 1 0 3 2 1 2 in 1 out 2\n"
	for _, c := range []struct {
		text string
		line int
	}{
		{"opening", 1}, {"opening in out", 1}, {"in", 1}, {"out", 1}, {"openings 1 1 0 3 2 1 2 in 1 out 2", 1}, {"Opening 1 1 0 3 2 1 2 in 1 out 2", 1},
		{"1 1 0 3 2 1 2 in 1 out 2", 1}, {"1 1 1 0 3 2 1 2 in 1 out 2", 1}, {"in 1 1 0 3 2 1 2 in 1 out 2", 1}, {"out 1 1 0 3 2 1 2 in 1 out 2", 1},
		{"opening 1 1 0 3 2 1 in 1 out 2", 1}, {"opening 1 1 0 3 2 1 2 0 in 1 out 2", 1}, {"opening 1 1 0 3 2 1 2", 1}, {"opening 1 1 0 3 2 1 2 1 2", 1},
		{"opening 1 1 0 3 2 1 2 in", 1}, {"opening 1 1 0 3 2 1 2 out", 1}, {"opening 1 1 0 3 2 1 2 in 1", 1}, {"opening 1 1 0 3 2 1 2 out 1", 1}, {"opening 1 1 0 3 2 1 2 out 1 in 2", 1}, {"opening 1 1 0 3 2 1 2 out in", 1},
		{"opening 1 1 0 3 2 1 2 in 1 in 2 out 3", 1}, {"opening 1 1 0 3 2 1 2 in 1 out 2 out 3", 1}, {"opening 1 1 0 3 2 1 2 in 1 out 2 in 3", 1}, {"opening 1 1 0 3 2 1 2 in 1 out 2 in", 1}, {"opening 1 1 0 3 2 1 2 in in out", 1}, {"opening 1 1 0 3 2 1 2 in out out", 1},
		{"opening 1 1 0 out 2 1 2 in 1 out 2", 1}, {"opening 1 1 0 out 2 1 2 in 1", 1}, {"opening 1 1 in 3 2 1 2 in 1 out 2", 1}, {"opening opening 1 1 0 3 2 1 2 in 1 out 2", 1},
		{"opening 01 1 0 3 2 1 2 in 1 out 2", 1}, {"opening 1 -1 0 3 2 1 2 in 1 out 2", 1}, {"opening 1 1 -0 3 2 1 2 in 1 out 2", 1}, {"opening 1 1 0 +3 2 1 2 in 1 out 2", 1}, {"opening 1 1 0 3 x 1 2 in 1 out 2", 1},
		{"opening 1 1 0 1000000 2 1 2 in 1 out 2", 1}, {"opening 1 1 0 3 2 0000000 2 in 1 out 2", 1}, {"opening 1 1 0 3 2 1 1000000 in 1 out 2", 1},
		{"opening 1 1 0 3 2 1 2 in 01 out 2", 1}, {"opening 1 1 0 3 2 1 2 in 1 out 02", 1}, {"opening 1 1 0 3 2 1 2 in -1 out 2", 1}, {"opening 1 1 0 3 2 1 2 in 1 out 1000000", 1}, {"opening 1 1 0 3 2 1 2 in 1,2 out 3", 1}, {"opening 1 1 0 3 2 1 2 In 1 out 2", 1}, {"opening 1 1 0 3 2 1 2 in 1 Out 2", 1},
		{"opening 1 1 0 3 2 1 2 in 1 out 2\r\n", 1}, {"opening\t1 1 0 3 2 1 2 in 1 out 2", 1}, {"opening 1 1 0 3 2 1 2 in 1 out 2\v", 1}, {"opening 1 1 0 3 2 1 2 in 1 out\u00a02", 1}, {"opening 1 1 0 3 2 1 2 in \u0661 out 2", 1}, {" # opening", 1},
		{good + good + "\n#\nx\ny", 5}, {good + "in 1 out 2", 2}, {strings.Repeat("\n", 11990) + "x", 11991}, {"opening 0 0 0 0 0 0 0 in out\n" + good + "x", 3},
	} {
		expect(t, c.text, results(chest.Parse(c.text)), none, c.line, api.ErrText)
	}
}

func TestP67NotValid(t *testing.T) {
	const good = "opening 1 1 0 3 2 1 2 in 1 out 2\n"
	sixtyOne := ""
	for i := range 61 {
		sixtyOne += strings.ReplaceAll("opening 1N 1 1N 1N 2 0 0 in 1 out 2\n", "N", string([]byte{byte('0' + i/10), byte('0' + i%10)}))
	}
	for _, text := range []string{
		"opening 0 1 0 3 2 1 2 in 1 out 2", "opening 100000 1 0 3 2 1 2 in 1 out 2", "opening 1 3 0 3 2 1 2 in 1 out 2", "opening 1 1 4 3 2 1 2 in 1 out 2", "opening 1 1 0 999999 2 1 2 in 1 out 2",
		"opening 1 1 0 3 3 1 2 in 1 out 2", "opening 1 1 0 3 2 1 1 in 1 out 2", "opening 1 1 0 3 2 1 2 in 0 out 2", "opening 1 1 0 3 2 1 2 in 2 1 out 3", "opening 1 1 0 3 2 1 2 in 1 out 1", "opening 1 1 0 3 2 1 2 in 1 2 3 4 5 6 7 8 9 out",
		"opening 1 1 0 3 2 1 2 in out 1000", good + good, "opening 2 1 8 9 2 1 2 in 1 out 2\n" + good, good + "opening 2 1 3 3 2 1 2 in 1 out 2", sixtyOne,
	} {
		expect(t, text, results(chest.Parse(text)), none, 0, api.ErrRegister)
	}
	most := exampleText + "#" + strings.Repeat("x", api.MaxChestText-len(exampleText)-1)
	expect(t, "Parse of 12000 bytes", results(chest.Parse(most)), example(), 0, api.OK)
	expect(t, "Parse of 12001 bytes", results(chest.Parse(most+"x")), none, 0, api.ErrLong)
	expect(t, "Parse of 12001 wrong bytes", results(chest.Parse("x\n"+most)), none, 0, api.ErrLong)
	sixty := strings.TrimPrefix(sixtyOne, "opening 100 1 100 100 2 0 0 in 1 out 2\n")
	if l, _, e := chest.Parse(sixty); len(l) != api.MaxOpenings || e != api.OK {
		t.Errorf("Parse of 60 openings: %v, %v", l, e)
	}
}
