package keys

import (
	"strings"

	"parvise/api"
	"parvise/basic"
)

const (
	deedWord    = "deed"
	deedNumbers = 9
	maxDigits   = 6
)

// wrongLine is the number of a line of the wrong form, by which its reading is left.
type wrongLine int

// Print returns the text of deeds.
func Print(l []api.Deed) (string, api.Errno) {
	if e := Check(l); e != api.OK {
		return "", e
	}
	var text strings.Builder
	for _, d := range l {
		text.WriteString(basic.Line(deedWord, d.At.Parish, d.At.No, d.Kind, d.Lock, d.Person, d.Day.Lo, d.Day.Hi, d.Known, d.Until))
	}
	return text.String(), api.OK
}

// Parse reads such a text.
func Parse(text string) ([]api.Deed, int, api.Errno) {
	if len(text) > api.MaxDeedText {
		return nil, 0, api.ErrLong
	}
	l, wrong := read(text)
	if wrong > 0 {
		return nil, wrong, api.ErrText
	}
	if e := Check(l); e != api.OK {
		return nil, 0, e
	}
	return l, 0, api.OK
}

// read returns what the lines of a text say, or the number of the first one of the wrong form.
func read(text string) (l []api.Deed, wrong int) {
	defer func() {
		if line, is := recover().(wrongLine); is {
			l, wrong = nil, int(line)
		}
	}()
	for line, words := range basic.Spoken(text) {
		l = append(l, deedOf(line, words))
	}
	return l, 0
}

func deedOf(line int, words []string) api.Deed {
	n, ok := basic.Numbers(words[1:], maxDigits)
	if !ok || len(n) != deedNumbers || words[0] != deedWord {
		panic(wrongLine(line))
	}
	return api.Deed{
		At:   api.Item{Parish: n[0], No: n[1]},
		Kind: n[2], Lock: n[3], Person: n[4],
		Day:   api.Range{Lo: n[5], Hi: n[6]},
		Known: n[7], Until: n[8],
	}
}
