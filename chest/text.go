package chest

import (
	"slices"
	"strings"

	"parvise/api"
	"parvise/basic"
)

const (
	openingWord = "opening"
	inWord      = "in"
	outWord     = "out"
	inPlace     = 8 // of the word `in` in a line: behind the first word, and seven numbers
	maxDigits   = 6
)

// wrongLine is the number of a line of the wrong form, by which its reading is left.
type wrongLine int

// Print returns the text of openings.
func Print(l []api.Opening) (string, api.Errno) {
	if e := Check(l); e != api.OK {
		return "", e
	}
	var text strings.Builder
	for _, o := range l {
		text.WriteString(basic.Phrase(openingWord, o.Source, o.Register, o.Day, o.Through, o.Lawful, o.Known, o.Until))
		text.WriteString(" " + basic.Phrase(inWord, o.In...))
		text.WriteString(" " + basic.Line(outWord, o.Out...))
	}
	return text.String(), api.OK
}

// Parse reads such a text.
func Parse(text string) ([]api.Opening, int, api.Errno) {
	if len(text) > api.MaxChestText {
		return nil, 0, api.ErrLong
	}
	l, wrong := read(text)
	if wrong > 0 {
		return nil, wrong, api.ErrText
	}
	if e := Check(l); e != api.OK {
		return nil, 0, e
	}
	return l, 0, api.OK
}

// read returns what the lines of a text say, or the number of the first one of the wrong form.
func read(text string) (l []api.Opening, wrong int) {
	defer func() {
		if line, is := recover().(wrongLine); is {
			l, wrong = nil, int(line)
		}
	}()
	for line, words := range basic.Spoken(text) {
		l = append(l, openingOf(line, words))
	}
	return l, 0
}

// openingOf returns the opening that a line says.
func openingOf(line int, words []string) api.Opening {
	in, out := slices.Index(words, inWord), slices.Index(words, outWord)
	if words[0] != openingWord || in != inPlace || out < in {
		panic(wrongLine(line))
	}
	n := numbersOf(line, words[1:in])
	return api.Opening{
		Source: n[0], Register: n[1],
		Day: n[2], Through: n[3],
		Lawful: n[4],
		Known:  n[5], Until: n[6],
		In:  numbersOf(line, words[in+1:out]),
		Out: numbersOf(line, words[out+1:]),
	}
}

func numbersOf(line int, words []string) []int {
	n, ok := basic.Numbers(words, maxDigits)
	if !ok {
		panic(wrongLine(line))
	}
	return n
}
