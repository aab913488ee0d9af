package vestry

import (
	"slices"
	"strconv"

	"parvise/api"
	"parvise/basic"
)

// none is the answer that has nothing.
const none = "none"

// refused is the error of a command, by which the doing of it is left.
type refused api.Errno

// doing is a command that is being done. It changes the vestry behind all by which it may be refused; but a letter or a bag is gone even then.
type doing struct {
	*Vestry
	args []int
}

// do does a command: the answer, or the error.
func (v *Vestry) do(c api.Command) (answer []string, e api.Errno) {
	defer func() {
		if r, is := recover().(refused); is {
			answer, e = nil, api.Errno(r)
		}
	}()
	f, e := formOf(c)
	check(basic.First(e, basic.Verdict(v != nil, api.ErrWords)))
	check(basic.Verdict(!f.hasParish() || basic.IsParish(c.Args[0]), api.ErrArg))
	d := doing{v, c.Args}
	return d.act(c.Kind), api.OK
}

// act does what commands of a kind do.
func (d *doing) act(kind int) []string {
	for _, acts := range []func() map[int]func() []string{d.settingActs, d.recordActs, d.carrierActs, d.queryActs} {
		if act := acts()[kind]; act != nil {
			return act()
		}
	}
	return nil
}

// check leaves the doing of a command if there is an error.
func check(e api.Errno) {
	if e != api.OK {
		panic(refused(e))
	}
}

// must returns a value, but leaves the doing of a command if there is an error.
func must[T any](v T, e api.Errno) T {
	check(e)
	return v
}

// put returns a list in order that has an element in the place of the one that is equal, or else at its place.
func put[T any](l []T, v T, compare func(a, b T) int) []T {
	l = slices.Clone(l)
	at, there := slices.BinarySearchFunc(l, v, compare)
	if there {
		l[at] = v
		return l
	}
	return slices.Insert(l, at, v)
}

// done is the answer of a command that tells nothing else.
func done() []string { return []string{"ok"} }

// one is the answer that is a number.
func one(n int, e api.Errno) []string {
	check(e)
	return []string{row(n)}
}

// list is the answer that is a list of numbers.
func list(l []int, e api.Errno) []string {
	check(e)
	return []string{row(l...)}
}

// span is the answer that is a range.
func span(r api.Range, e api.Errno) []string {
	check(e)
	return []string{row(r.Lo, r.Hi)}
}

// told is the answer that is no, yes or maybe.
func told(answer int, e api.Errno) []string {
	check(e)
	words := [...]string{api.No: "no", api.Yes: "yes", api.Maybe: "maybe"}
	return []string{words[answer]}
}

// lines is the answer that has a line for each element of a list.
func lines[T any](l []T, line func(T) string) []string {
	if len(l) == 0 {
		return []string{none}
	}
	var all []string
	for _, v := range l {
		all = append(all, line(v))
	}
	return all
}

// row is a line of numbers.
func row(numbers ...int) string {
	if len(numbers) == 0 {
		return none
	}
	return basic.Phrase(strconv.Itoa(numbers[0]), numbers[1:]...)
}
