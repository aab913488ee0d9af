package lend

import (
	"strings"

	"parvise/api"
	"parvise/basic"
)

const (
	holdsWord = "holds"
	underWord = "under"
	sentWord  = "sent"
	takenWord = "taken"
	maxDigits = 5
)

// wrongLine is the number of a line that is not the next one of a text, by which its reading is left.
type wrongLine int

// Print writes a stock as a text.
func Print(s api.Stock) (string, api.Errno) {
	if e := checkAnyStock(s); e != api.OK {
		return "", e
	}
	return textOf(s), api.OK
}

// Parse reads the text of a stock.
func Parse(me int, text string) (s api.Stock, line int, e api.Errno) {
	if len(text) > api.MaxStocked {
		return api.Stock{}, 0, api.ErrLong
	}
	defer func() {
		if wrong, is := recover().(wrongLine); is {
			s, line, e = api.Stock{}, int(wrong), api.ErrText
		}
	}()
	read := stockOf(text)
	if e := CheckStock(me, read); e != api.OK {
		return api.Stock{}, 0, e
	}
	return read, 0, api.OK
}

// textOf returns the text of a stock.
func textOf(s api.Stock) string {
	var text strings.Builder
	writeLine(&text, holdsWord, s.Holds...)
	for to, p := range parcelsOf(s) {
		writeLine(&text, underWord, to, p.No, p.Paper)
	}
	writeLine(&text, sentWord, s.Sent[:]...)
	writeLine(&text, takenWord, s.Taken[:]...)
	return text.String()
}

// writeLine writes the line of a word and numbers.
func writeLine(text *strings.Builder, word string, numbers ...int) {
	text.WriteString(basic.Line(word, numbers...))
}

// stockOf returns what the lines of a text say; if one of them is wrong, or missing, the reading is left.
func stockOf(text string) api.Stock {
	var r reading
	for line, words := range basic.Spoken(text) {
		n, ok := basic.Numbers(words[1:], maxDigits)
		if !ok || !r.take(words[0], n) {
			panic(wrongLine(line))
		}
	}
	if r.last != takenWord {
		panic(wrongLine(basic.Lines(text) + 1))
	}
	return r.Stock
}

// reading is what the lines said that were read.
type reading struct {
	api.Stock
	last   string // the word of the last one
	parish int    // that of the last parcel
}

// take takes what a line says, and reports whether it may be the next one.
func (r *reading) take(word string, n []int) bool {
	more := r.last == holdsWord || r.last == underWord
	switch {
	case word == holdsWord && r.last == "":
		r.Holds = n
	case word == underWord && more && len(n) == 3 && basic.Within(n[0], r.parish, api.MaxParishes-1):
		r.parish = n[0]
		r.Under[r.parish] = append(r.Under[r.parish], api.Parcel{No: n[1], Paper: n[2]})
	case word == sentWord && more && len(n) == len(r.Sent):
		copy(r.Sent[:], n)
	case word == takenWord && r.last == sentWord && len(n) == len(r.Taken):
		copy(r.Taken[:], n)
	default:
		return false
	}
	r.last = word
	return true
}
