package basic_test

import (
	"slices"
	"strings"
	"testing"

	"parvise/basic"
)

func TestSpoken(t *testing.T) {
	var got []string
	for line, words := range basic.Spoken("#a\n  one  two \n\n \n # three\nfo\tur\r\n#") {
		got = append(got, basic.Line(strings.Join(words, "|"), line))
	}
	if want := []string{"one|two 2\n", "#|three 5\n", "fo\tur\r 6\n"}; !slices.Equal(got, want) {
		t.Errorf("Spoken: %q; expected %q", got, want)
	}
	for range basic.Spoken("one\ntwo\n") {
		break
	}
	for text := range map[string]bool{"": true, "\n": true, "#": true, " \n#\n": true} {
		for line, words := range basic.Spoken(text) {
			t.Errorf("Spoken %q: %d %q", text, line, words)
		}
	}
}

func TestWords(t *testing.T) {
	for line, want := range map[string][]string{
		"": nil, "  ": nil, "#": nil, "# one": nil, "one": {"one"}, " one  # ": {"one", "#"}, "one\ttwo\nthree four\r": {"one\ttwo\nthree", "four\r"}, "\xff \x00": {"\xff", "\x00"},
	} {
		if words := basic.Words(line); !slices.Equal(words, want) {
			t.Errorf("Words %q = %q", line, words)
		}
	}
}

func TestLines(t *testing.T) {
	for text, want := range map[string]int{"": 0, "\n": 1, "a": 1, "a\n": 1, "a\nb": 2, "\n\n": 2, "\n ": 2} {
		if n := basic.Lines(text); n != want {
			t.Errorf("Lines %q = %d; expected %d", text, n, want)
		}
	}
}

func TestNumbers(t *testing.T) {
	for word, want := range map[string]int{"0": 0, "7": 7, "10": 10, "999": 999} {
		if n, ok := basic.Number(word, 3); n != want || !ok {
			t.Errorf("Number %q = %d, %v", word, n, ok)
		}
	}
	for _, word := range []string{"", "00", "01", "1000", "-1", "-0", "+1", "x", "1x", "0x1", "1_0", "1.", " 1", "\u0663"} {
		if n, ok := basic.Number(word, 3); n != 0 || ok {
			t.Errorf("Number %q = %d, %v", word, n, ok)
		}
		if l, ok := basic.Numbers([]string{"1", word}, 3); l != nil || ok {
			t.Errorf("Numbers 1, %q = %v, %v", word, l, ok)
		}
	}
	if l, ok := basic.Numbers([]string{"1", "20"}, 2); !slices.Equal(l, []int{1, 20}) || !ok {
		t.Errorf("Numbers = %v, %v", l, ok)
	}
	if l, ok := basic.Numbers(nil, 2); len(l) != 0 || !ok {
		t.Errorf("Numbers of none = %v, %v", l, ok)
	}
	if line := basic.Line("a", 0, 10, -1); line != "a 0 10 -1\n" {
		t.Errorf("Line = %q", line)
	}
	if line := basic.Line("a"); line != "a\n" {
		t.Errorf("Line = %q", line)
	}
	if phrase := basic.Phrase("a", 0, 10, -1) + basic.Phrase("b"); phrase != "a 0 10 -1b" {
		t.Errorf("Phrase = %q", phrase)
	}
}

func TestSum(t *testing.T) {
	for _, c := range []struct {
		sum, modulo int
		text        string
		want        int
	}{
		{0, 9973, "", 0}, {132, 9973, "", 132}, {0, 9973, "a", 98}, {1, 9973, "a", 355}, {1, 9973, "ab", 1577}, {1, 97, "ab", 57}, {0, 1000003, "\x00\xff", 513}, {1000002, 1000003, "\n", 999757},
	} {
		if got := basic.Sum(c.sum, c.modulo, c.text); got != c.want {
			t.Errorf("Sum(%d, %d, %q) = %d; expected %d", c.sum, c.modulo, c.text, got, c.want)
		}
	}
}
