package vestry

import (
	"slices"
	"strings"

	"parvise/api"
	"parvise/basic"
	"parvise/stem"
)

const (
	proofWord      = "proof"
	maxProofDigits = 6 // of a number in a proof
)

// wrong is an error at a line of a story, by which the reading of it is left.
type wrong struct {
	line int
	e    api.Errno
}

// Open returns the script of a transcript, and what is told in it.
func Open(story string) (text, told string, line int, e api.Errno) {
	if len(story) > api.MaxStory {
		return "", "", 0, api.ErrLong
	}
	var script, said strings.Builder
	for n, line := range linesOf(story) {
		if command, is := strings.CutPrefix(line, asks); is {
			writeLines(&script, "", command)
		} else if answer, is := strings.CutPrefix(line, answers); is {
			writeLines(&said, "", answer)
		} else {
			return "", "", n, api.ErrStory
		}
	}
	return script.String(), said.String(), 0, api.OK
}

// Accept reports whether a text is a transcript.
func Accept(story string) (line int, e api.Errno) {
	defer func() {
		if w, is := recover().(wrong); is {
			line, e = w.line, w.e
		}
	}()
	script, _, line, e := Open(story)
	expect(e == api.OK, line, e)
	scenes := scenesOf(story)
	for _, s := range scenes {
		s.checkCommand()
	}
	commands, n, e := commandsOf(script)
	expect(e == api.OK, lineOf(scenes, n), e)
	expect(!strings.HasPrefix(story, answers), 1, api.ErrSaid)
	v := New()
	for i, c := range commands {
		scenes[i].checkAnswer(v, c)
	}
	expect(story == "" || strings.HasSuffix(story, "\n"), basic.Lines(story), api.ErrSaid)
	return 0, api.OK
}

// expect leaves the reading of a story if something is not so.
func expect(ok bool, line int, e api.Errno) {
	if !ok {
		panic(wrong{line, e})
	}
}

// scene is a command of a story, the number of its line, and the lines of its answer, which are those behind it.
type scene struct {
	line    int
	command string
	answer  []string
}

// scenesOf returns the scenes of a story, without what is ahead of the first command.
func scenesOf(story string) []scene {
	var scenes []scene
	for n, line := range linesOf(story) {
		if command, is := strings.CutPrefix(line, asks); is {
			scenes = append(scenes, scene{line: n, command: command})
		} else if len(scenes) > 0 {
			last := &scenes[len(scenes)-1]
			last.answer = append(last.answer, strings.TrimPrefix(line, answers))
		}
	}
	return scenes
}

// lineOf returns the number of the line of the n-th scene; 0 of none.
func lineOf(scenes []scene, n int) int {
	if n == 0 {
		return 0
	}
	return scenes[n-1].line
}

// checkCommand leaves the reading if the command is not written as it has to be.
func (s scene) checkCommand() {
	expect(speaks(s.command), s.line, api.ErrStory)
	c, _, e := Parse(s.command)
	if e != api.OK {
		// It is told behind all commands that are written in another way.
		return
	}
	line, _ := Print(c)
	expect(line == s.command, s.line, api.ErrStory)
}

// checkAnswer does the command, and leaves the reading if the answer is another one.
func (s scene) checkAnswer(v *Vestry, c api.Command) {
	answer := v.Do(c)
	if c.Kind == api.CmdProve && len(answer) > 1 {
		s.checkLines(answer[:1], s.answer[:min(1, len(s.answer))])
		proved := len(s.answer) == 2 && isProof(v.setting.Stem, s.answer[1])
		expect(proved, s.line+2, api.ErrSaid)
		return
	}
	s.checkLines(answer, s.answer)
}

// checkLines leaves the reading at the first line that is wrong, one too many, or missing.
func (s scene) checkLines(due, answer []string) {
	for i := range max(len(due), len(answer)) {
		same := i < len(due) && i < len(answer) && due[i] == answer[i]
		expect(same, s.line+1+i, api.ErrSaid)
	}
}

// isProof reports whether a line has weights that show that no pedigree costs less than the least ones.
func isProof(s api.Stem, line string) bool {
	words := strings.Split(line, " ")
	numbers, ok := basic.Numbers(words[1:], maxProofDigits)
	if !ok || words[0] != proofWord || len(numbers)%2 != 0 {
		return false
	}
	var weights []api.Weight
	for pair := range slices.Chunk(numbers, 2) {
		weights = append(weights, api.Weight{Set: pair[0], Weight: pair[1]})
	}
	bound, e := stem.Fewest(s)
	return e == api.OK && stem.CheckProof(s, weights, bound) == api.OK
}
