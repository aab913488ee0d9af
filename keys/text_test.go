package keys_test

import (
	"math/rand/v2"
	"strings"
	"testing"

	"parvise/api"
	"parvise/keys"
)

func TestP18Print(t *testing.T) {
	l := example()[5:7]
	l[1].Known, l[1].Until = 8, 90
	want := "deed 0 5 3 3 13 12 20 0 0\ndeed 0 6 4 1 14 30 40 8 90\n"
	expect(t, "Print", results(keys.Print(l)), want, api.OK)
	expect(t, "Print of none", results(keys.Print(nil)), "", api.OK)
	expect(t, "Print of wrong ones", results(keys.Print(wrong())), "", api.ErrDeeds)
}

func TestP18ParseOfPrint(t *testing.T) {
	eachSome(t, 18, 1000, func(r *rand.Rand, l []api.Deed) {
		for i := range l {
			if r.IntN(3) == 0 {
				l[i].Day.Hi, l[i].At.Parish = api.MaxDay-r.IntN(3), 0
			}
		}
		text, e := keys.Print(l)
		if e != api.OK {
			t.Fatalf("Print = %v", e)
		}
		expect(t, "Parse of Print", results(keys.Parse(text)), l, 0, api.OK)
	})
	most := many(api.MaxDeeds)
	for i := range most {
		most[i] = given(3, 99, api.MaxDay, api.MaxDay)
		most[i].At = api.Item{Parish: 5, No: api.MaxNo - api.MaxDeeds + i}
		most[i].Known, most[i].Until = api.MaxDay-1, api.MaxDay
	}
	text, _ := keys.Print(most)
	expect(t, "Parse of the longest", results(keys.Parse(text)), most, 0, api.OK)
}

func TestP18Parse(t *testing.T) {
	l := example()[5:7]
	for _, text := range []string{
		"deed 0 5 3 3 13 12 20 0 0\ndeed 0 6 4 1 14 30 40 0 0",
		"# keys\n\n   \n  deed   0 5 3 3 13 12 20 0 0  \n#deed\n deed 0 6 4 1 14 30 40 0 0\n\n",
		"#\r\n#\xff\xfe\ndeed 0 5 3 3 13 12 20 0 0\ndeed 0 6 4 1 14 30 40 0 0\n#",
	} {
		expect(t, text, results(keys.Parse(text)), l, 0, api.OK)
	}
	expect(t, "Parse of no text", results(keys.Parse("")), nil, 0, api.OK)
	expect(t, "Parse of a remark", results(keys.Parse("# 1\n \n")), nil, 0, api.OK)
}

func TestP18WrongForm(t *testing.T) {
	const good = "deed 0 5 3 3 13 12 20 0 0"
	for _, c := range []struct {
		text string
		line int
	}{
		{"deed 0 5 3 3 13 12 20 0", 1}, {good + " 0", 1}, {"deed", 1}, {"0 5 3 3 13 12 20 0 0", 1},
		{"deeds 0 5 3 3 13 12 20 0 0", 1}, {"Deed 0 5 3 3 13 12 20 0 0", 1}, {" # remark", 1}, {"key 1", 1},
		{"deed 0 05 3 3 13 12 20 0 0", 1}, {"deed 00 5 3 3 13 12 20 0 0", 1}, {"deed +0 5 3 3 13 12 20 0 0", 1},
		{"deed 0 -5 3 3 13 12 20 0 0", 1}, {"deed -0 5 3 3 13 12 20 0 0", 1}, {"deed 0 5 3 3 13 12 20 0 1000000", 1},
		{"deed 0 5 3 3 13 12 20 0 x", 1}, {"deed 0 5 3 3 13 12 20 0 0x1", 1}, {"deed 0 5 3 3 13 12 20 0 1_0", 1},
		{"deed 0 5 3 3 13 12 20 0 \u0663", 1}, {"deed 0 5 3 3 13 12 20 0 1.0", 1},
		{"deed\t0 5 3 3 13 12 20 0 0", 1}, {good + "\r\n", 1}, {good + "\u00a0", 1}, {good + "\v", 1}, {good + "\xff", 1},
		{"\n# one\n" + good + "\n\nkey\nkeys\n", 5}, {good + "\n" + good + "\nx", 3}, {"deed 0 5 7 3 13 12 20 0 0\nx", 2},
		{strings.Repeat("\n", 7999) + "x", 8000},
	} {
		expect(t, c.text, results(keys.Parse(c.text)), nil, c.line, api.ErrText)
	}
}

func TestP18NotValid(t *testing.T) {
	const good = "deed 0 5 3 3 13 12 20 0 0"
	for _, text := range []string{
		"deed 0 5 7 3 13 12 20 0 0", "deed 0 5 3 3 13 12 999999 0 0", "deed 6 5 3 3 13 12 20 0 0", good + "\n" + good,
		"deed 0 6 4 1 14 30 40 0 0\n" + good, "deed 0 5 3 3 13 12 20 7 7", strings.Repeat(good+"\n", 61),
	} {
		expect(t, text, results(keys.Parse(text)), nil, 0, api.ErrDeeds)
	}
	full := good + "\n#" + strings.Repeat("x", api.MaxDeedText-len(good)-2)
	expect(t, "Parse of 8000 bytes", results(keys.Parse(full)), example()[5:6], 0, api.OK)
	expect(t, "Parse of 8001 bytes", results(keys.Parse(full+"x")), nil, 0, api.ErrLong)
	expect(t, "Parse of 8001 wrong bytes", results(keys.Parse("x\n"+full)), nil, 0, api.ErrLong)
}
