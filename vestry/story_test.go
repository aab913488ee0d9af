package vestry_test

import (
	"fmt"
	"math/rand/v2"
	"slices"
	"strconv"
	"strings"
	"testing"

	"parvise/api"
	"parvise/stem"
	"parvise/vestry"
)

// both calls Run and Transcript, and expects one error of both.
func both(t *testing.T, name, text string, line int, e api.Errno) {
	t.Helper()
	expect(t, "Run of "+name, results(vestry.Run(text)), "", line, e)
	expect(t, "Transcript of "+name, results(vestry.Transcript(text)), "", line, e)
}

func TestP102Run(t *testing.T) {
	for _, c := range []struct{ text, told, story string }{
		{"clear", "ok\n", "> clear\n< ok\n"},
		{"clear\n", "ok\n", "> clear\n< ok\n"},
		{"\n# one\n  shelve   5 \n\n   \nsure 0 0\n#clear\nsure 0 -1", "ok\n5 1\nerror 6\n", "> shelve 5\n< ok\n> sure 0 0\n< 5 1\n> sure 0 -1\n< error 6\n"},
		{"holes 2\nshelve 5\nshelve 7\nglimpse 0 0 0 1 0 0 5\nsure 0 1\n", "ok\nok\nok\nrecord 0 0\n5 1\n7 2\n", "> holes 2\n< ok\n> shelve 5\n< ok\n> shelve 7\n< ok\n> glimpse 0 0 0 1 0 0 5\n< record 0 0\n> sure 0 1\n< 5 1\n< 7 2\n"},
		{"# " + strings.Repeat("long ", 100) + "\nclear\n", "ok\n", "> clear\n< ok\n"},
		{strings.Repeat(" ", 201) + "\nclear\n", "ok\n", "> clear\n< ok\n"},
		{strings.Repeat(" ", 195) + "clear\n", "ok\n", "> clear\n< ok\n"},
	} {
		expect(t, fmt.Sprintf("Run %q", c.text), results(vestry.Run(c.text)), c.told, 0, api.OK)
		expect(t, fmt.Sprintf("Transcript %q", c.text), results(vestry.Transcript(c.text)), c.story, 0, api.OK)
		// Each one is at a vestry of its own.
		expect(t, fmt.Sprintf("Run %q again", c.text), results(vestry.Run(c.text)), c.told, 0, api.OK)
	}
	both(t, "a wrong word", "clear\n\n# x\nclea\nclear 1\n", 4, api.ErrWords)
	both(t, "a wrong number", "clear\nclear 1\n", 2, api.ErrWords)
	both(t, "a long line", "clear\n"+strings.Repeat(" ", 196)+"clear\nclear 1\n", 2, api.ErrLong)
	both(t, "a wrong line ahead of a long one", "clear 1\n"+strings.Repeat(" ", 196)+"clear\n", 1, api.ErrWords)
	both(t, "other ends of lines", "clear\r\nclear\r\n", 1, api.ErrWords)
	both(t, "a transcript", "> clear\n< ok\n", 1, api.ErrWords)
}

func TestP102RunLimits(t *testing.T) {
	clears := strings.Repeat("clear\n", api.MaxLines)
	filled := clears + strings.Repeat("#\n", (api.MaxScript-len(clears))/2)
	for _, text := range []string{clears, "#\n" + clears + "\n \n# clear\n", filled, filled[:len(filled)-1] + "#"} {
		expect(t, "Run of 120 lines", results(vestry.Run(text)), strings.Repeat("ok\n", api.MaxLines), 0, api.OK)
		expect(t, "Transcript of 120 lines", results(vestry.Transcript(text)), strings.Repeat("> clear\n< ok\n", api.MaxLines), 0, api.OK)
	}
	expect(t, "how long it is", results(len(filled)), api.MaxScript)
	both(t, "121 lines", clears+"clear", 0, api.ErrLong)
	both(t, "121 lines, one of them wrong", "clea\n"+clears, 0, api.ErrLong)
	both(t, "too long a text", filled+"\n", 0, api.ErrLong)
	both(t, "too long a text that is wrong", "clea\n"+filled, 0, api.ErrLong)
	both(t, "too long a text that says nothing", strings.Repeat("\n", api.MaxScript+1), 0, api.ErrLong)
	expect(t, "Run of nothing", results(vestry.Run(strings.Repeat("\n", api.MaxScript))), "", 0, api.OK)
}

func TestP102Open(t *testing.T) {
	for _, c := range []struct {
		story, script, told string
		line                int
		e                   api.Errno
	}{
		{"> clear\n< ok\n", "clear\n", "ok\n", 0, api.OK},
		{"> clear\n< ok", "clear\n", "ok\n", 0, api.OK},
		{"> clear", "clear\n", "", 0, api.OK},
		{"< ok\n< \n", "", "ok\n\n", 0, api.OK},
		{"> \n", "\n", "", 0, api.OK},
		{">  a > b \n<  < \n> # c\r\n", " a > b \n# c\r\n", " < \n", 0, api.OK},
		{"> clear\n\n< ok\n", "", "", 2, api.ErrStory},
		{"> clear\n< ok\n\n", "", "", 3, api.ErrStory},
		{"\n", "", "", 1, api.ErrStory},
		{"> clear\n<ok\n", "", "", 2, api.ErrStory},
		{">clear\n< ok\n", "", "", 1, api.ErrStory},
		{">\n< ok\n", "", "", 1, api.ErrStory},
		{"> clear\n<", "", "", 2, api.ErrStory},
		{" > clear\n", "", "", 1, api.ErrStory},
		{"# clear\n", "", "", 1, api.ErrStory},
		{"> clear\n< ok\nx\n\ny\n", "", "", 3, api.ErrStory},
	} {
		expect(t, fmt.Sprintf("Open %q", c.story), results(vestry.Open(c.story)), c.script, c.told, c.line, c.e)
		if c.e != api.OK {
			expect(t, fmt.Sprintf("Accept %q", c.story), results(vestry.Accept(c.story)), c.line, c.e)
		}
	}
	long := strings.Repeat("< 12345\n", api.MaxStory/8)
	expect(t, "Open of as much as may be", results(vestry.Open(long)), "", strings.Repeat("12345\n", api.MaxStory/8), 0, api.OK)
	expect(t, "Accept of as much as may be", results(vestry.Accept(long)), 1, api.ErrSaid)
	for _, story := range []string{long + "<", "x" + long, strings.Repeat("\n", api.MaxStory+1)} {
		expect(t, "Open of too much", results(vestry.Open(story)), "", "", 0, api.ErrLong)
		expect(t, "Accept of too much", results(vestry.Accept(story)), 0, api.ErrLong)
	}
}

func TestP104Accept(t *testing.T) {
	wide := "> " + strings.Repeat(" ", 196) + "clear\n"
	clears := strings.Repeat("> clear\n< ok\n", api.MaxLines)
	heavy := strings.Repeat("> clea"+strings.Repeat("x", 20000)+"\n", 2)
	for _, c := range []struct {
		name, story string
		line        int
		e           api.Errno
	}{
		{"a transcript", "> clear\n< ok\n", 0, api.OK},
		{"as many commands as may be", clears, 0, api.OK},
		{"another answer", "> clear\n< none\n", 2, api.ErrSaid},
		{"no line feed at the end", "> clear\n< ok", 2, api.ErrSaid},
		{"a wrong answer, no line feed at the end", "> clear\n< no\n> clear\n< ok", 2, api.ErrSaid},
		{"a missing answer", "> clear\n", 2, api.ErrSaid},
		{"a missing answer, no line feed at the end", "> clear", 2, api.ErrSaid},
		{"a missing answer ahead of a command", "> clear\n> clear\n< ok\n", 2, api.ErrSaid},
		{"an answer twice", "> clear\n< ok\n< ok\n> clear\n< ok\n", 3, api.ErrSaid},
		{"an answer twice, at the end", "> clear\n< ok\n< ok", 3, api.ErrSaid},
		{"an answer with a space more", "> clear\n< ok \n", 2, api.ErrSaid},
		{"an answer without anything", "> clear\n< \n", 2, api.ErrSaid},
		{"an answer ahead", "< ok\n> clear\n< ok\n", 1, api.ErrSaid},
		{"an answer alone", "< ok\n", 1, api.ErrSaid},
		{"an answer ahead, and another one missing", "< ok\n> clear\n", 1, api.ErrSaid},
		{"a missing line of several", "> records\n< records 0\n< records 0\n< records 0\n< records 0\n< records 0\n> clear\n< ok\n", 7, api.ErrSaid},
		{"a wrong line of several", "> records\n< records 0\n< records 0\n< records 1\n< records 0\n< records 0\n< records 0\n> clear\n< ok\n", 4, api.ErrSaid},
		{"an answer of the other order", "> holder 9 1 1 1\n< error 2\n", 2, api.ErrSaid},
		{"a command that says nothing", "> clear\n< ok\n> \n", 3, api.ErrStory},
		{"a command that is a remark", "> # clear\n", 1, api.ErrStory},
		{"spaces alone", ">   \n", 1, api.ErrStory},
		{"a command with more spaces", "> shelve  5\n< ok\n", 1, api.ErrStory},
		{"a command behind a space", ">  clear\n< ok\n", 1, api.ErrStory},
		{"a command ahead of a space", "> clear \n< ok\n", 1, api.ErrStory},
		{"a wrong answer ahead of a wide command", "> clear\n< no\n> clear \n", 3, api.ErrStory},
		{"an answer ahead of a wide command", "< ok\n> clear \n", 2, api.ErrStory},
		{"a command that is wrong", "> clear\n< ok\n> clea\n< ok\n", 3, api.ErrWords},
		{"a number too many", "> clear\n< ok\n> clear 1\n", 3, api.ErrWords},
		{"a wrong command ahead of a wide one", "> clea\n< ok\n> clear \n< ok\n", 3, api.ErrStory},
		{"an answer ahead of a wrong command", "< ok\n> clea\n", 2, api.ErrWords},
		{"a wrong answer ahead of a wrong command", "> clear\n< no\n> clea\n", 3, api.ErrWords},
		{"a command of too many bytes", "> clear\n< ok\n" + wide + "< ok\n", 3, api.ErrLong},
		{"a wide command behind one of too many bytes", wide + "> clear \n", 2, api.ErrStory},
		{"a remark of too many bytes", "> #" + strings.Repeat("x", 300) + "\n", 1, api.ErrStory},
		{"too many commands", clears + "> clear\n< ok\n", 0, api.ErrLong},
		{"too many commands, the first one wrong", "> clea\n" + clears, 0, api.ErrLong},
		{"too many commands, the last one wide", clears + "> clear \n", 241, api.ErrStory},
		{"too many bytes of commands", heavy, 0, api.ErrLong},
		{"too many bytes of commands, then a wide one", heavy + "> clear \n", 3, api.ErrStory},
		{"many bytes of a command", heavy[:len(heavy)/2], 1, api.ErrLong},
	} {
		expect(t, "Accept of "+c.name, results(vestry.Accept(c.story)), c.line, c.e)
		expect(t, "a plain reading of "+c.name, plainAccept(c.story), c.line, c.e)
	}
}

// proofs is the beginning of a story, up to the first line of the answer of prove; there are 7 pairs that show that 7 is the least.
const proofs = "> costs 2 9 1 4\n< ok\n> copy 1 10 20 30 40 0 0\n< ok\n> copy 2 10 20 31 40 0 0\n< ok\n> copy 3 10 0 31 40 0 0\n< ok\n> copy 4 10 20 30 50 0 0\n< ok\n> prove\n< bound 7\n"

func TestP104Prove(t *testing.T) {
	const proof = "< proof 1 1 2 1 4 2 7 3 8 4 11 1 15 99995\n"
	for _, c := range []struct {
		name, lines string
		line        int
		e           api.Errno
	}{
		{"a proof", proof, 0, api.OK},
		{"a proof, and more", proof + "> fewest\n< 7\n", 0, api.OK},
		{"a proof of other weights", "< proof 1 1 2 1 4 2 7 2 8 4 11 1 15 99996\n", 13, api.ErrSaid},
		{"fewer weights", "< proof 1 1 2 1 4 2 7 3 8 4 15 99995\n", 13, api.ErrSaid},
		{"no weights", "< proof\n", 13, api.ErrSaid},
		{"half a pair", proof[:len(proof)-7] + "\n", 13, api.ErrSaid},
		{"another half", strings.TrimSpace(proof) + " 1\n", 13, api.ErrSaid},
		{"sets that fall", "< proof 2 1 1 1 4 2 7 3 8 4 11 1 15 99995\n", 13, api.ErrSaid},
		{"a number of another form", "< proof 01 1 2 1 4 2 7 3 8 4 11 1 15 99995\n", 13, api.ErrSaid},
		{"a number with a sign", "< proof +1 1 2 1 4 2 7 3 8 4 11 1 15 99995\n", 13, api.ErrSaid},
		{"a number that is less than 0", "< proof -1 1 2 1 4 2 7 3 8 4 11 1 15 99995\n", 13, api.ErrSaid},
		{"a number that is no int", "< proof 18446744073709551617 1 2 1 4 2 7 3 8 4 11 1 15 99995\n", 13, api.ErrSaid},
		{"two spaces", "< proof  1 1 2 1 4 2 7 3 8 4 11 1 15 99995\n", 13, api.ErrSaid},
		{"a space behind it", "< proof 1 1 2 1 4 2 7 3 8 4 11 1 15 99995 \n", 13, api.ErrSaid},
		{"a space ahead of it", "<  proof 1 1 2 1 4 2 7 3 8 4 11 1 15 99995\n", 13, api.ErrSaid},
		{"another word", "< proofs 1 1 2 1 4 2 7 3 8 4 11 1 15 99995\n", 13, api.ErrSaid},
		{"numbers alone", "< 1 1 2 1 4 2 7 3 8 4 11 1 15 99995\n", 13, api.ErrSaid},
		{"a word that is none", "< proof 1 1 2 1 4 2 7 3 8 4 11 x 15 99995\n", 13, api.ErrSaid},
		{"nothing", "", 13, api.ErrSaid},
		{"nothing, ahead of a command", "> clear\n< ok\n", 13, api.ErrSaid},
		{"two proofs", proof + proof, 13, api.ErrSaid},
		{"a proof, and another line", proof + "< ok\n", 13, api.ErrSaid},
		{"another line, and a proof", "< bound 7\n" + proof, 13, api.ErrSaid},
		{"a proof, and something wrong", proof + "> fewest\n< 8\n", 15, api.ErrSaid},
		{"a proof without its line feed", strings.TrimSpace(proof), 13, api.ErrSaid},
		{"a proof of another stem", proof + "> never 2 3\n< ok\n> prove\n< bound 8\n" + proof, 18, api.ErrSaid},
	} {
		expect(t, "Accept of "+c.name, results(vestry.Accept(proofs+c.lines)), c.line, c.e)
		expect(t, "a plain reading of "+c.name, plainAccept(proofs+c.lines), c.line, c.e)
	}
	for _, bound := range []string{"6", "8", "07", "7 ", "", "-7"} {
		story := strings.Replace(proofs, "bound 7", "bound "+bound, 1) + proof
		expect(t, "Accept of the bound "+bound, results(vestry.Accept(story)), 12, api.ErrSaid)
	}
	for story, line := range map[string]int{
		"> prove\n< error 45\n": 0, "> prove\n< error 44\n": 2, "> prove\n< bound 0\n< proof\n": 2, "> prove\n< error 45\n< proof\n": 3, "> prove\n< error 45\n< error 45\n": 3, "> prove\n": 2,
		"> copy 1 1 1 1 1 1 1\n< ok\n> prove\n< bound 0\n< proof 1 100000\n": 0, "> copy 1 1 1 1 1 1 1\n< ok\n> prove\n< bound 0\n< proof 1 99999\n": 5, "> copy 1 1 1 1 1 1 1\n< ok\n> prove\n< error 45\n": 4,
		"> copy 1 1 1 1 1 1 1\n< ok\n> prove\n< proof 1 100000\n": 4, "> copy 1 1 1 1 1 1 1\n< ok\n> prove\n": 4, "> copy 1 1 1 1 1 1 1\n< ok\n> prove\n< bound 0": 5,
	} {
		expect(t, fmt.Sprintf("Accept %q", story), results(vestry.Accept(story)), line, verdict(line == 0, api.ErrSaid))
	}
}

// plainAccept is a plain reading of what is said of Accept.
func plainAccept(story string) result {
	if len(story) > 400000 {
		return results(0, api.ErrLong)
	}
	lines := strings.Split(story, "\n")
	if lines[len(lines)-1] == "" {
		lines = lines[:len(lines)-1]
	}
	var script []string
	var at []int // the lines of the commands
	for i, line := range lines {
		if len(line) < 2 || line[1] != ' ' || line[0] != '>' && line[0] != '<' {
			return results(1+i, api.ErrStory)
		}
		if line[0] == '>' {
			script = append(script, line[2:])
			at = append(at, i)
		}
	}
	for i, line := range script {
		c, _, e := vestry.Parse(line)
		words, _ := vestry.Print(c)
		if strings.Trim(line, " ") == "" || line[0] == '#' || e == api.OK && words != line {
			return results(1+at[i], api.ErrStory)
		}
	}
	text := ""
	for _, line := range script {
		text += line + "\n"
	}
	if _, n, e := vestry.Run(text); e != api.OK && n > 0 {
		return results(1+at[n-1], e)
	} else if e != api.OK {
		return results(0, e)
	}
	if len(lines) > 0 && lines[0][0] == '<' {
		return results(1, api.ErrSaid)
	}
	v := vestry.New()
	for i, line := range script {
		end := len(lines)
		if i+1 < len(at) {
			end = at[i+1]
		}
		var said []string
		for _, x := range lines[at[i]+1 : end] {
			said = append(said, x[2:])
		}
		c, _, _ := vestry.Parse(line)
		due := v.Do(c)
		if line == "prove" && due[0] != "error 45" {
			if len(said) == 0 || said[0] != due[0] {
				return results(2+at[i], api.ErrSaid)
			}
			if len(said) != 2 || !plainProof(v.Setting().Stem, strings.Fields(due[0])[1], said[1]) {
				return results(3+at[i], api.ErrSaid)
			}
			continue
		}
		for n := 0; n < len(due) || n < len(said); n++ {
			if n == len(due) || n == len(said) || due[n] != said[n] {
				return results(2+at[i]+n, api.ErrSaid)
			}
		}
	}
	if story != "" && story[len(story)-1] != '\n' {
		return results(len(lines), api.ErrSaid)
	}
	return results(0, api.OK)
}

// plainProof reports whether a line is one of weights that show a bound.
func plainProof(s api.Stem, bound, line string) bool {
	cost, _ := strconv.Atoi(bound)
	var n []int
	again := "proof"
	for _, word := range strings.Fields(line)[min(1, len(strings.Fields(line))):] {
		number, _ := strconv.Atoi(word)
		n = append(n, number)
		again += " " + strconv.Itoa(number)
	}
	if again != line || len(n)%2 == 1 {
		return false
	}
	var weights []api.Weight
	for i := 0; i < len(n); i += 2 {
		weights = append(weights, api.Weight{Set: n[i], Weight: n[i+1]})
	}
	return stem.CheckProof(s, weights, cost) == api.OK
}

// someText returns a random script that can be run.
func someText(t *testing.T, r *rand.Rand) string {
	t.Helper()
	text := ""
	someScript(t, r, r.IntN(60), newPlain(), func(c api.Command, _ []string) {
		line, e := vestry.Print(c)
		expect(t, fmt.Sprint("Print ", c), results(e), api.OK)
		text += line + "\n"
	})
	return text
}

// TestP104Alone accepts the transcripts of random scripts, and refuses them with a line of an answer left out, doubled or changed.
func TestP104Alone(t *testing.T) {
	proved := 0
	eachSeed(t, 1041, 80, func(r *rand.Rand) {
		text := someText(t, r)
		story, line, e := vestry.Transcript(text)
		expect(t, "Transcript", results(line, e), 0, api.OK)
		expect(t, "Accept", results(vestry.Accept(story)), 0, api.OK)
		told, line, e := vestry.Run(text)
		expect(t, "Run", results(line, e), 0, api.OK)
		expect(t, "Open", results(vestry.Open(story)), text, told, 0, api.OK)
		lines := strings.SplitAfter(story, "\n")
		for range 12 {
			at := r.IntN(len(lines))
			proof := slices.IndexFunc(lines, func(line string) bool { return strings.HasPrefix(line, "< proof") })
			if r.IntN(4) == 0 && proof >= 0 {
				at = proof
			}
			if !strings.HasPrefix(lines[at], "< ") {
				continue
			}
			other := lines[at][:2] + []string{"x", "", "ok ", "none", "1", "no"}[r.IntN(6)] + lines[at][2:]
			for name, part := range map[string][]string{
				"left out": slices.Concat(lines[:at], lines[at+1:]),
				"doubled":  slices.Concat(lines[:at+1], lines[at:]),
				"changed":  slices.Concat(lines[:at], []string{other}, lines[at+1:]),
			} {
				changed := strings.Join(part, "")
				got := results(vestry.Accept(changed))
				if strings.HasPrefix(lines[at], "< proof") {
					proved++
				} else if got[1] != api.ErrSaid && changed != story {
					t.Errorf("Accept with the line %d %s: %v, %q", 1+at, name, got, changed)
				}
				expect(t, fmt.Sprint("Accept with the line ", 1+at, " ", name), got, plainAccept(changed)...)
			}
		}
	})
	if proved < 30 {
		t.Errorf("just %d lines of proofs were changed", proved)
	}
}

// TestP104Changed holds Accept of transcripts that are changed anywhere against a plain reading.
func TestP104Changed(t *testing.T) {
	seen := map[string]int{}
	eachSeed(t, 1042, 200, func(r *rand.Rand) {
		story, _, e := vestry.Transcript(someText(t, r))
		expect(t, "Transcript", results(e), api.OK)
		for range 10 {
			changed := []byte(story)
			for range 1 + r.IntN(2) {
				at := r.IntN(len(changed) + 1)
				switch r.IntN(4) {
				case 0:
					changed = slices.Delete(changed, at, min(at+1, len(changed)))
				case 1:
					changed = slices.Insert(changed, at, "> <\n#x0 1-"[r.IntN(10)])
				case 2:
					changed = slices.Insert(changed, at, changed[r.IntN(at+1):at]...)
				default:
					changed = changed[:at]
				}
			}
			got := results(vestry.Accept(string(changed)))
			expect(t, fmt.Sprintf("Accept %q", changed), got, plainAccept(string(changed))...)
			seen[fmt.Sprint(int(got[1].(api.Errno)))]++
		}
	})
	for _, e := range []string{"0", "100", "101", "102"} {
		if seen[e] < 5 {
			t.Errorf("%s was answered just %d times", e, seen[e])
		}
	}
}

// TestP104Proofs accepts other weights that show the bound, and no others.
func TestP104Proofs(t *testing.T) {
	accepted := map[bool]int{}
	eachSeed(t, 1043, 60, func(r *rand.Rand) {
		text := "costs 2 9 1 4\n"
		for id := range 2 + r.IntN(4) {
			text += fmt.Sprint("copy ", 1+id, " ", r.IntN(3), " ", r.IntN(3), " ", r.IntN(3), " 1 1 1\n")
		}
		story, _, e := vestry.Transcript(text + "prove\n")
		expect(t, "Transcript", results(e), api.OK)
		lines := strings.Split(story, "\n")
		head := strings.Join(lines[:len(lines)-2], "\n") + "\n"
		words := strings.Split(lines[len(lines)-2], " ")
		for range 60 {
			other := slices.Clone(words)
			for range 2 {
				at := 2 + r.IntN(len(other)-2)
				n, _ := strconv.Atoi(other[at])
				other[at] = fmt.Sprint(n + few(r, 1, -1))
			}
			if other[3] == "0" && r.IntN(2) == 0 {
				other = slices.Delete(other, 2, 4)
			}
			changed := head + strings.Join(other, " ") + "\n"
			want := plainAccept(changed)
			expect(t, fmt.Sprintf("Accept %q", changed), results(vestry.Accept(changed)), want...)
			if changed != story {
				accepted[want[1] == api.OK]++
			}
		}
	})
	if accepted[true] < 20 || accepted[false] < 200 {
		t.Errorf("accepted: %v", accepted)
	}
}
