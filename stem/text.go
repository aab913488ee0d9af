package stem

import (
	"slices"
	"strings"

	"parvise/api"
	"parvise/basic"
)

const (
	costsWord = "costs"
	copyWord  = "copy"
	neverWord = "never"
	maxDigits = 3
)

// Print returns the text of a stem.
func Print(s api.Stem) (string, api.Errno) {
	if e := Check(s); e != api.OK {
		return "", e
	}
	var text strings.Builder
	text.WriteString(basic.Line(costsWord, s.Costs.Lose, s.Costs.Gain, s.Costs.Like, s.Costs.Turn))
	for _, c := range s.Copies {
		text.WriteString(basic.Line(copyWord, slices.Concat([]int{c.Id}, c.Words)...))
	}
	for _, n := range s.Never {
		text.WriteString(basic.Line(neverWord, n.From, n.To))
	}
	return text.String(), api.OK
}

// Parse reads such a text.
func Parse(text string) (api.Stem, int, api.Errno) {
	if len(text) > api.MaxStemText {
		return api.Stem{}, 0, api.ErrLong
	}
	var s api.Stem
	begun := false
	for line, words := range basic.Spoken(text) {
		if begun == (words[0] == costsWord) || !enter(&s, words) {
			return api.Stem{}, line, api.ErrText
		}
		begun = true
	}
	if !begun {
		return api.Stem{}, basic.Lines(text) + 1, api.ErrText
	}
	slices.SortFunc(s.Copies, byId)
	slices.SortFunc(s.Never, byIds)
	if e := Check(s); e != api.OK {
		return api.Stem{}, 0, e
	}
	return s, 0, api.OK
}

// enter adds what a line says to a stem, and reports whether it has a right form.
func enter(s *api.Stem, words []string) bool {
	n, ok := basic.Numbers(words[1:], maxDigits)
	if !ok {
		return false
	}
	switch {
	case words[0] == costsWord && len(n) == 4:
		s.Costs = api.Costs{Lose: n[0], Gain: n[1], Like: n[2], Turn: n[3]}
	case words[0] == copyWord && basic.Within(len(n), 2, 1+api.MaxWords):
		s.Copies = append(s.Copies, api.Copy{Id: n[0], Words: n[1:]})
	case words[0] == neverWord && len(n) == 2:
		s.Never = append(s.Never, api.Never{From: n[0], To: n[1]})
	default:
		return false
	}
	return true
}
