package keys

import (
	"iter"
	"strconv"
	"strings"

	"parvise/api"
)

const (
	deedWord    = "deed"
	deedNumbers = 9
	maxDigits   = 6
)

// wrongLine is the number of a line of the wrong form, by which its reading is left.
type wrongLine int

// Print returns the text of deeds.
func Print(l []api.Deed) (string, api.Errno) {
	if e := Check(l); e != api.OK {
		return "", e
	}
	var text strings.Builder
	for _, d := range l {
		text.WriteString(deedWord)
		for _, n := range [deedNumbers]int{d.At.Parish, d.At.No, d.Kind, d.Lock, d.Person, d.Day.Lo, d.Day.Hi, d.Known, d.Until} {
			text.WriteByte(' ')
			text.WriteString(strconv.Itoa(n))
		}
		text.WriteByte('\n')
	}
	return text.String(), api.OK
}

// Parse reads such a text.
func Parse(text string) ([]api.Deed, int, api.Errno) {
	if len(text) > api.MaxDeedText {
		return nil, 0, api.ErrLong
	}
	l, wrong := read(text)
	if wrong > 0 {
		return nil, wrong, api.ErrText
	}
	if e := Check(l); e != api.OK {
		return nil, 0, e
	}
	return l, 0, api.OK
}

// read returns what the lines of a text say, or the number of the first one of the wrong form.
func read(text string) (l []api.Deed, wrong int) {
	defer func() {
		if line, is := recover().(wrongLine); is {
			l, wrong = nil, int(line)
		}
	}()
	for line, words := range spoken(text) {
		l = append(l, deedOf(line, words))
	}
	return l, 0
}

// spoken yields the number and the words of each line that says something.
func spoken(text string) iter.Seq2[int, []string] {
	return func(yield func(int, []string) bool) {
		for i, line := range strings.Split(text, "\n") {
			// Not strings.Fields: only spaces part words.
			words := strings.FieldsFunc(line, func(r rune) bool { return r == ' ' })
			if len(words) == 0 || line[0] == '#' {
				continue
			}
			if !yield(i+1, words) {
				return
			}
		}
	}
}

func deedOf(line int, words []string) api.Deed {
	if len(words) != 1+deedNumbers || words[0] != deedWord {
		panic(wrongLine(line))
	}
	var n [deedNumbers]int
	for i, word := range words[1:] {
		n[i] = numberOf(line, word)
	}
	return api.Deed{
		At:   api.Item{Parish: n[0], No: n[1]},
		Kind: n[2], Lock: n[3], Person: n[4],
		Day:   api.Range{Lo: n[5], Hi: n[6]},
		Known: n[7], Until: n[8],
	}
}

func numberOf(line int, word string) int {
	if len(word) > maxDigits || len(word) > 1 && word[0] == '0' {
		panic(wrongLine(line))
	}
	n := 0
	for _, b := range []byte(word) {
		if b < '0' || b > '9' {
			panic(wrongLine(line))
		}
		n = 10*n + int(b-'0')
	}
	return n
}
