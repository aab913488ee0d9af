package vestry

import (
	"iter"
	"strings"

	"parvise/api"
	"parvise/basic"
)

const (
	asks    = "> " // ahead of a command of a transcript
	answers = "< " // ahead of a line of its answer
)

// Run plays a script at a new vestry and returns what it tells.
func Run(text string) (string, int, api.Errno) {
	script, line, e := commandsOf(text)
	if e != api.OK {
		return "", line, e
	}
	var all strings.Builder
	for _, answer := range played(script) {
		writeLines(&all, "", answer...)
	}
	return all.String(), 0, api.OK
}

// Transcript returns the transcript of a script.
func Transcript(text string) (string, int, api.Errno) {
	script, line, e := commandsOf(text)
	if e != api.OK {
		return "", line, e
	}
	var story strings.Builder
	for c, answer := range played(script) {
		// What was read has no error.
		command, _ := Print(c)
		writeLines(&story, asks, command)
		writeLines(&story, answers, answer...)
	}
	if story.Len() > api.MaxStory {
		return "", 0, api.ErrLong
	}
	return story.String(), 0, api.OK
}

// commandsOf returns the commands of a script; with an error, the number of the line that has it.
func commandsOf(text string) ([]api.Command, int, api.Errno) {
	if len(text) > api.MaxScript || speaking(text) > api.MaxLines {
		return nil, 0, api.ErrLong
	}
	var script []api.Command
	for n, line := range linesOf(text) {
		if !speaks(line) {
			continue
		}
		c, _, e := Parse(line)
		if e != api.OK {
			return nil, n, e
		}
		script = append(script, c)
	}
	return script, 0, api.OK
}

// speaking returns how many lines of a text say something.
func speaking(text string) int {
	n := 0
	for range basic.Spoken(text) {
		n++
	}
	return n
}

// speaks reports whether a line says something.
func speaks(line string) bool { return len(basic.Words(line)) > 0 }

// played yields commands that are done one after the other at a new vestry, and their answers.
func played(script []api.Command) iter.Seq2[api.Command, []string] {
	return func(yield func(api.Command, []string) bool) {
		v := New()
		for _, c := range script {
			if !yield(c, v.Do(c)) {
				return
			}
		}
	}
}

// linesOf yields the lines of a text, by their numbers.
func linesOf(text string) iter.Seq2[int, string] {
	return func(yield func(int, string) bool) {
		n := 0
		for line := range strings.Lines(text) {
			n++
			if !yield(n, strings.TrimSuffix(line, "\n")) {
				return
			}
		}
	}
}

// writeLines writes lines that all begin with something.
func writeLines(text *strings.Builder, ahead string, lines ...string) {
	for _, line := range lines {
		text.WriteString(ahead + line + "\n")
	}
}
