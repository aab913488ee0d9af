package basic

import (
	"iter"
	"strconv"
	"strings"
)

// Spoken yields the number and the words of each line of a text that says something.
func Spoken(text string) iter.Seq2[int, []string] {
	return func(yield func(int, []string) bool) {
		for i, line := range strings.Split(text, "\n") {
			words := Words(line)
			if len(words) == 0 {
				continue
			}
			if !yield(i+1, words) {
				return
			}
		}
	}
}

// Words returns the words of a line; none if it says nothing.
func Words(line string) []string {
	if strings.HasPrefix(line, "#") {
		return nil
	}
	// Not strings.Fields: only spaces part words.
	return strings.FieldsFunc(line, func(r rune) bool { return r == ' ' })
}

// Lines returns how many lines a text has.
func Lines(text string) int {
	n := strings.Count(text, "\n")
	if text == "" || strings.HasSuffix(text, "\n") {
		return n
	}
	return n + 1
}

// Number returns the number that a word of at most so many digits is, and whether it is one; an int must hold so many digits.
func Number(word string, digits int) (int, bool) {
	if !Within(len(word), 1, digits) || len(word) > 1 && word[0] == '0' {
		return 0, false
	}
	n := 0
	for _, b := range []byte(word) {
		if b < '0' || b > '9' {
			return 0, false
		}
		n = 10*n + int(b-'0')
	}
	return n, true
}

// Numbers is Number for each word of a list.
func Numbers(words []string, digits int) ([]int, bool) {
	var all []int
	for _, word := range words {
		n, ok := Number(word, digits)
		if !ok {
			return nil, false
		}
		all = append(all, n)
	}
	return all, true
}

// Phrase returns a word and numbers, with a space between any two.
func Phrase(word string, numbers ...int) string {
	phrase := []byte(word)
	for _, n := range numbers {
		phrase = append(phrase, ' ')
		phrase = strconv.AppendInt(phrase, int64(n), 10)
	}
	return string(phrase)
}

// Line returns the line of a word and numbers.
func Line(word string, numbers ...int) string { return Phrase(word, numbers...) + "\n" }

// Sum returns the sum of a text, modulo a number; it begins with one that is known.
func Sum(sum, modulo int, text string) int {
	for _, b := range []byte(text) {
		sum = (257*sum + int(b) + 1) % modulo
	}
	return sum
}
