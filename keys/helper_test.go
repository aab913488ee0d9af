package keys_test

import (
	"math/rand/v2"
	"reflect"
	"slices"
	"testing"

	"parvise/api"
	"parvise/keys"
)

func days(lo, hi int) api.Range { return api.Range{Lo: lo, Hi: hi} }

func item(no int) api.Item { return api.Item{No: no} }

func sworn(person, lo, hi int) api.Deed {
	return api.Deed{Kind: api.DeSworn, Person: person, Day: days(lo, hi)}
}

func left(person, lo, hi int) api.Deed {
	return api.Deed{Kind: api.DeLeft, Person: person, Day: days(lo, hi)}
}

func given(lock, person, lo, hi int) api.Deed {
	return api.Deed{Kind: api.DeGiven, Lock: lock, Person: person, Day: days(lo, hi)}
}

func lent(lock, person, lo, hi int) api.Deed {
	return api.Deed{Kind: api.DeLent, Lock: lock, Person: person, Day: days(lo, hi)}
}

func back(lock, lo, hi int) api.Deed {
	return api.Deed{Kind: api.DeBack, Lock: lock, Day: days(lo, hi)}
}

func lost(lock, lo, hi int) api.Deed {
	return api.Deed{Kind: api.DeLost, Lock: lock, Day: days(lo, hi)}
}

// numbered returns deeds with the Nos 0, 1 and so on.
func numbered(l ...api.Deed) []api.Deed {
	for i := range l {
		l[i].At.No = i
	}
	return l
}

// example returns the deeds of the chapter's examples, and more.
func example(more ...api.Deed) []api.Deed {
	gone := left(12, 60, 70)
	gone.Known = 75
	return numbered(append([]api.Deed{
		sworn(11, 10, 10), sworn(12, 10, 10), sworn(13, 10, 10),
		given(1, 11, 12, 12), given(2, 12, 12, 12), given(3, 13, 12, 20),
		lent(1, 14, 30, 40), back(1, 35, 50), gone,
	}, more...)...)
}

// uneven returns deeds that contradict each other.
func uneven() []api.Deed { return example(back(1, 20, 29)) }

// wrong returns deeds that are not valid.
func wrong() []api.Deed { return []api.Deed{{}} }

// result is what a call returned: all its values.
type result []any

func results(values ...any) result { return values }

// expect compares what a call returned, taking nil and empty lists for the same.
func expect(t *testing.T, call string, got result, want ...any) {
	t.Helper()
	for i, v := range want {
		if !same(got[i], v) {
			t.Errorf("%s: %v; expected %v", call, got, want)
			return
		}
	}
}

func same(a, b any) bool {
	x, y := reflect.ValueOf(a), reflect.ValueOf(b)
	if b == nil {
		return !x.IsValid() || x.Kind() == reflect.Slice && x.Len() == 0
	}
	if x.Kind() == reflect.Slice && y.Kind() == reflect.Slice && x.Len() == 0 && y.Len() == 0 {
		return true
	}
	return reflect.DeepEqual(a, b)
}

// question is a call that asks something of deeds, as known on a day.
type question struct {
	name string
	ask  func(l []api.Deed, known int) result
}

// questions returns all calls that ask of deeds as known on a day, about some day.
func questions(day int) []question {
	var all []question
	add := func(name string, ask func(l []api.Deed, known int) result) {
		all = append(all, question{name, ask})
	}
	add("Consistent", func(l []api.Deed, known int) result { return results(keys.Consistent(l, known)) })
	add("Conflict", func(l []api.Deed, known int) result { return results(keys.Conflict(l, known)) })
	add("Wardens", func(l []api.Deed, known int) result { return results(keys.Wardens(l, day, known)) })
	add("Openers", func(l []api.Deed, known int) result { return results(keys.Openers(l, day, known)) })
	for person := 1; person <= people; person++ {
		add("InOffice", func(l []api.Deed, known int) result { return results(keys.InOffice(l, person, day, known)) })
	}
	for lock := 1; lock <= api.MaxLocks; lock++ {
		add("Holders", func(l []api.Deed, known int) result { return results(keys.Holders(l, lock, day, known)) })
		add("Hands", func(l []api.Deed, known int) result { return results(keys.Hands(l, lock, day, known)) })
		for person := 1; person <= people; person++ {
			add("Holds", func(l []api.Deed, known int) result { return results(keys.Holds(l, lock, person, day, known)) })
			add("Has", func(l []api.Deed, known int) result { return results(keys.Has(l, lock, person, day, known)) })
		}
	}
	for _, persons := range parties() {
		add("Lawful", func(l []api.Deed, known int) result { return results(keys.Lawful(l, persons, day, known)) })
	}
	return all
}

// people is how many persons random deeds are about.
const people = 5

// parties returns all lists of these persons.
func parties() [][]int {
	var all [][]int
	for set := range 1 << people {
		var persons []int
		for i := range people {
			if set>>i&1 == 1 {
				persons = append(persons, i+1)
			}
		}
		all = append(all, persons)
	}
	return all
}

// lastDay is the last day of random deeds.
const lastDay = 8

// someDeeds returns valid deeds: most often three wardens with a key each, and what then befell them; few enough true days to try all.
func someDeeds(r *rand.Rand) []api.Deed {
	var l []api.Deed
	if r.IntN(5) > 0 {
		for i := range 3 {
			l = append(l, sworn(i+1, 0, 0), given(i+1, i+1, 1, 1))
		}
	}
	for range r.IntN(7) {
		l = append(l, someDeed(r))
	}
	if r.IntN(4) == 0 {
		r.Shuffle(len(l), func(i, j int) { l[i], l[j] = l[j], l[i] })
	}
	choices, later := 1, 0
	for i := range l {
		wide := r.IntN(4)
		if choices *= wide + 1; choices > 300 {
			choices, wide = choices/(wide+1), 0
		}
		if r.IntN(3) > 0 {
			later = min(lastDay, later+r.IntN(2))
		} else {
			later = r.IntN(lastDay)
		}
		if l[i].Day.Hi == 0 || r.IntN(4) > 0 {
			l[i].Day = days(max(0, later-wide), later)
		}
		if r.IntN(4) == 0 {
			l[i].Known = r.IntN(3)
		}
		if r.IntN(6) == 0 {
			l[i].Until = l[i].Known + 1 + r.IntN(2)
		}
	}
	return numbered(l...)
}

func someDeed(r *rand.Rand) api.Deed {
	d := api.Deed{Kind: 1 + r.IntN(6)}
	if d.Kind > api.DeLeft {
		d.Lock = 1 + r.IntN(api.MaxLocks)
	}
	if d.Kind < api.DeBack {
		d.Person = 1 + r.IntN(people)
	}
	return d
}

// eachSome calls a function with many random deeds that are valid.
func eachSome(t *testing.T, seed uint64, many int, f func(r *rand.Rand, l []api.Deed)) {
	t.Helper()
	r := rand.New(rand.NewPCG(seed, 1))
	for range many {
		l := someDeeds(r)
		if e := keys.Check(l); e != api.OK {
			t.Fatalf("Check(%v) = %v; expected 0", l, e)
		}
		f(r, l)
		if t.Failed() {
			t.Fatalf("deeds %v", l)
		}
	}
}

// counts returns the deeds that count.
func counts(l []api.Deed, known int) []api.Deed {
	return slices.DeleteFunc(slices.Clone(l), func(d api.Deed) bool {
		return d.Known > known || d.Until != 0 && d.Until <= known
	})
}
