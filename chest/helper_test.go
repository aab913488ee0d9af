package chest_test

import (
	"fmt"
	"math/rand/v2"
	"slices"
	"testing"

	"parvise/api"
	"parvise/chest"
)

// opening returns one that is known from the day 0 on, and was lawful or not.
func opening(source, register, day, through int, in, out []int) api.Opening {
	return api.Opening{Source: source, Register: register, Day: day, Through: through, Lawful: api.Maybe, In: in, Out: out}
}

func papers(l ...int) []int { return l }

func during(known, until int, o api.Opening) api.Opening {
	o.Known, o.Until = known, until
	return o
}

func lawful(answer int, o api.Opening) api.Opening {
	o.Lawful = answer
	return o
}

// example returns the openings of the chapter's examples.
func example() []api.Opening {
	return []api.Opening{
		lawful(api.Yes, opening(1, 1, 10, 30, papers(5, 7), papers(9))),
		lawful(api.No, opening(2, 1, 40, 60, papers(5), papers(7))),
		during(8, 0, opening(3, 2, 20, 45, papers(9), papers(5))),
		lawful(api.Yes, opening(4, 2, 50, 70, papers(5, 9), nil)),
		during(20, 0, lawful(api.No, opening(5, 2, 5, 12, papers(9), nil))),
	}
}

// wrong returns openings that are not valid.
func wrong() []api.Opening { return []api.Opening{{}} }

// fullKnown is the day on which what is full counts.
const fullKnown = api.MaxDay - 1

// full returns as many openings as may be, with as much in each of them: each one contradicts the next one, which is of the other register.
func full() []api.Opening {
	var l []api.Opening
	high, low := upTo(999)[991:], upTo(999)[983:991]
	for i := range api.MaxOpenings {
		o := opening(99940+i, 1+i%2, 99940+i, 99941+i, high, low)
		if i%2 == 1 {
			o.In, o.Out = low, high
		}
		l = append(l, during(fullKnown, api.MaxDay, o))
	}
	return l
}

// upTo returns the numbers from 1 to n.
func upTo(n int) []int {
	l := make([]int, n)
	for i := range l {
		l[i] = i + 1
	}
	return l
}

// sources returns the Sources of openings.
func sources(l []api.Opening) []int {
	var all []int
	for _, o := range l {
		all = append(all, o.Source)
	}
	return all
}

// cloned returns openings that may be changed.
func cloned(l []api.Opening) []api.Opening {
	l = slices.Clone(l)
	for i, o := range l {
		l[i].In, l[i].Out = slices.Clone(o.In), slices.Clone(o.Out)
	}
	return l
}

// none is an empty list.
var none []int

// result is what a call returned: all its values.
type result []any

func results(values ...any) result { return values }

// expect compares what a call returned by its print, in which nil and empty lists are the same.
func expect(t *testing.T, call string, got result, want ...any) {
	t.Helper()
	if fmt.Sprint(got...) != fmt.Sprint(want...) {
		t.Errorf("%s: %v; expected %v", call, got, want)
	}
}

// verdict is OK if something is so, and otherwise an error.
func verdict(ok bool, e api.Errno) api.Errno {
	if ok {
		return api.OK
	}
	return e
}

// subsets returns all lists of some of a list's elements, in their order.
func subsets(l []int) [][]int {
	all := [][]int{nil}
	for _, n := range l {
		for _, s := range all {
			all = append(all, append(slices.Clone(s), n))
		}
	}
	return all
}

// question is a call that asks something of openings, as known on a day.
type question struct {
	name string
	ask  func(l []api.Opening, known int) result
}

// questions returns calls that ask of openings as known on a day: of all their days up to the last one, and their papers.
func questions(l []api.Opening, last int) []question {
	var all []question
	add := func(name string, ask func(l []api.Opening, known int) result) {
		all = append(all, question{name, ask})
	}
	add("Clashes", func(l []api.Opening, known int) result { return results(chest.Clashes(l, known)) })
	add("Fewest", func(l []api.Opening, known int) result { return results(chest.Fewest(l, known)) })
	add("False", func(l []api.Opening, known int) result { return results(chest.False(l, known)) })
	add("Pairs", func(l []api.Opening, known int) result { return results(chest.Pairs(l, known)) })
	add("Unlawful", func(l []api.Opening, known int) result { return results(chest.Unlawful(l, known)) })
	add("Papers", func(l []api.Opening, known int) result { return results(chest.Papers(l, known)) })
	for _, source := range sources(l) {
		add(fmt.Sprint("True ", source), func(l []api.Opening, known int) result { return results(chest.True(l, source, known)) })
	}
	for _, day := range upTo(last) {
		add(fmt.Sprint("Sealed ", day), func(l []api.Opening, known int) result { return results(chest.Sealed(l, day, known)) })
		add(fmt.Sprint("Content ", day), func(l []api.Opening, known int) result { return results(chest.Content(l, day, known)) })
		for _, paper := range upTo(mostPapers) {
			add(fmt.Sprint("Inside ", paper, day), func(l []api.Opening, known int) result { return results(chest.Inside(l, paper, day, known)) })
		}
	}
	return all
}

const (
	mostPapers = 5 // of random openings
	lastKnown  = 6
)

// areApart reports whether two openings are of different registers, or have no day in common, or never count both.
func areApart(a, b api.Opening) bool {
	if a.Register != b.Register {
		return true
	}
	for day := a.Day; day <= a.Through; day++ {
		for known := range lastKnown + 1 {
			if b.Day <= day && day <= b.Through && counts(a, known) && counts(b, known) {
				return false
			}
		}
	}
	return true
}

func counts(o api.Opening, known int) bool {
	return o.Known <= known && (o.Until == 0 || known < o.Until)
}

// someOpening returns a random one of a few days and papers, not yet with a place in a list.
func someOpening(r *rand.Rand, days int) api.Opening {
	o := api.Opening{Register: 1 + r.IntN(2), Lawful: r.IntN(3), Day: r.IntN(days)}
	o.Through = min(days, o.Day+r.IntN(6))
	for paper := range mostPapers {
		switch r.IntN(3) {
		case 0:
			o.In = append(o.In, 1+paper)
		case 1:
			o.Out = append(o.Out, 1+paper)
		}
	}
	if r.IntN(5) == 0 {
		o.Known = r.IntN(lastKnown - 2)
	}
	if r.IntN(6) == 0 {
		o.Until = o.Known + 1 + r.IntN(lastKnown-o.Known)
	}
	return o
}

// someOpenings returns valid openings, with even Sources, which are at most as many as said; and which have days up to a last one.
func someOpenings(r *rand.Rand, most, days int) []api.Opening {
	var l []api.Opening
	for range r.IntN(6*most + 1) {
		o := someOpening(r, days)
		if len(l) < most && !slices.ContainsFunc(l, func(other api.Opening) bool { return !areApart(o, other) }) {
			l = append(l, o)
		}
	}
	r.Shuffle(len(l), func(i, j int) { l[i], l[j] = l[j], l[i] })
	source := 0
	for i := range l {
		source += 2 * (1 + r.IntN(3))
		l[i].Source = source
	}
	return l
}

// eachSome calls a function with many random lists of at most so many openings.
func eachSome(t *testing.T, seed uint64, many, most, days int, f func(r *rand.Rand, l []api.Opening, known int)) {
	t.Helper()
	r := rand.New(rand.NewPCG(seed, 6))
	for range many {
		l := someOpenings(r, most, days)
		f(r, l, r.IntN(lastKnown))
		if t.Failed() {
			t.Fatalf("openings %+v", l)
		}
	}
}
