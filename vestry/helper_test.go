package vestry_test

import (
	"fmt"
	"math/rand/v2"
	"strings"
	"testing"

	"parvise/api"
	"parvise/vestry"
)

// result is what a call returned: all its values.
type result []any

func results(values ...any) result { return values }

// expect compares what a call returned by its print, in which nil and empty lists are the same.
func expect(t *testing.T, call string, got result, want ...any) {
	t.Helper()
	if fmt.Sprintf("%+v", got) != fmt.Sprintf("%+v", result(want)) {
		t.Errorf("%s: %+v; expected %+v", call, got, want)
	}
}

// verdict is OK if something is so, and otherwise an error.
func verdict(ok bool, e api.Errno) api.Errno {
	if ok {
		return api.OK
	}
	return e
}

// refusal is the answer of a command that is refused.
func refusal(e api.Errno) []string { return []string{fmt.Sprint("error ", int(e))} }

// command reads a line.
func command(t *testing.T, line string) api.Command {
	t.Helper()
	c, at, e := vestry.Parse(line)
	if e != api.OK || at != 0 {
		t.Fatalf("Parse %q: %v at %d", line, e, at)
	}
	return c
}

// tells does a command of a vestry, and expects its answer.
func tells(t *testing.T, v *vestry.Vestry, line string, want ...string) {
	t.Helper()
	expect(t, line, results(v.Do(command(t, line))), want)
}

// play does the commands of lines like `shelve 5: ok`, at a vestry, and expects their answers; several lines of an answer are parted by ` / `.
func play(t *testing.T, v *vestry.Vestry, lines string) *vestry.Vestry {
	t.Helper()
	for line := range strings.Lines(lines) {
		line = strings.TrimSpace(line)
		if line == "" {
			continue
		}
		words, answer, _ := strings.Cut(line, ": ")
		tells(t, v, words, strings.Split(answer, " / ")...)
	}
	return v
}

// state is all that a vestry has, as a text.
func state(v *vestry.Vestry) string {
	var all []any
	for p := range api.MaxParishes {
		all = append(all, v.Parish(p), v.Desk(p))
	}
	return fmt.Sprintf("%+v", append(all, v.Setting(), v.Letters(), v.Bags()))
}

// book returns the records of a parish, in order.
func book(v *vestry.Vestry, p int) api.Book { return plainBook(v.Parish(p).Log) }

// eachSeed calls a function many times, with random numbers.
func eachSeed(t *testing.T, seed uint64, many int, f func(r *rand.Rand)) {
	t.Helper()
	for i := range many {
		f(rand.New(rand.NewPCG(seed, uint64(i))))
		if t.Failed() {
			t.Fatalf("the %d-th time", i)
		}
	}
}
