package keys_test

import (
	"fmt"
	"math/rand/v2"
	"slices"
	"testing"

	"parvise/api"
	"parvise/keys"
)

// world is what truly is on a day by some true days.
type world struct {
	days         []int
	holder, hand [api.MaxLocks + 1]int
	office       [people + 1]bool
}

// related reports whether two deeds are of one thread.
func related(a, b api.Deed) bool {
	if a.Kind <= api.DeLeft || b.Kind <= api.DeLeft {
		return a.Kind <= api.DeLeft && b.Kind <= api.DeLeft && a.Person == b.Person
	}
	return a.Lock == b.Lock
}

// allTrue returns all true days, one after the other tried.
func allTrue(count []api.Deed) [][]int {
	all := [][]int{nil}
	for i, d := range count {
		var longer [][]int
		for _, so := range all {
			for day := d.Day.Lo; day <= d.Day.Hi; day++ {
				fits := true
				for j, other := range count[:i] {
					fits = fits && !(related(other, d) && so[j] > day)
				}
				if fits {
					longer = append(longer, append(slices.Clone(so), day))
				}
			}
		}
		all = longer
	}
	return all
}

// worldBy plays the deeds that have happened on a day, by true days.
func worldBy(count []api.Deed, truth []int, day int) world {
	w := world{days: truth}
	for i, d := range count {
		if truth[i] > day {
			continue
		}
		switch d.Kind {
		case api.DeSworn:
			w.office[d.Person] = true
		case api.DeLeft:
			w.office[d.Person] = false
		case api.DeGiven:
			w.holder[d.Lock], w.hand[d.Lock] = d.Person, d.Person
		case api.DeLent:
			if w.holder[d.Lock] > 0 {
				w.hand[d.Lock] = d.Person
			}
		case api.DeBack:
			w.hand[d.Lock] = w.holder[d.Lock]
		case api.DeLost:
			w.holder[d.Lock], w.hand[d.Lock] = 0, 0
		}
	}
	return w
}

func worldsOf(l []api.Deed, day, known int) []world {
	count := counts(l, known)
	var all []world
	for _, truth := range allTrue(count) {
		all = append(all, worldBy(count, truth, day))
	}
	return all
}

// lawful reports whether an opening is so in a world.
func (w world) lawful(persons []int) bool {
	seen := map[int]bool{}
	for lock := 1; lock <= api.MaxLocks; lock++ {
		holder := w.holder[lock]
		if !slices.Contains(persons, w.hand[lock]) || !w.office[holder] || seen[holder] {
			return false
		}
		seen[holder] = true
	}
	return true
}

// some returns about eight of all worlds.
func some(all []world) []world {
	var l []world
	for i := 0; i < len(all); i += 1 + len(all)/8 {
		l = append(l, all[i])
	}
	return l
}

func answerOf(all []world, is func(world) bool) int {
	many := 0
	for _, w := range all {
		if is(w) {
			many++
		}
	}
	switch many {
	case 0:
		return api.No
	case len(all):
		return api.Yes
	}
	return api.Maybe
}

func gather(all []world, who func(world) int) []int {
	var l []int
	for _, w := range all {
		l = append(l, who(w))
	}
	slices.Sort(l)
	return slices.Compact(l)
}

// TestP11AllTrueDays holds the answers of many random deeds against all of their true days (P1.1, P1.2, P1.3).
func TestP11AllTrueDays(t *testing.T) {
	told := map[string]int{}
	eachSome(t, 11, 1500, func(r *rand.Rand, l []api.Deed) {
		day, known := r.IntN(lastDay+1), r.IntN(4)
		all := worldsOf(l, day, known)
		is, e := keys.Consistent(l, known)
		expect(t, "Consistent", results(is, e), len(all) > 0, api.OK)
		if len(all) == 0 {
			told["uneven"]++
			checkUneven(t, l, day, known)
			return
		}
		checkLocks(t, l, all, day, known)
		checkOffices(t, l, all, day, known)
		checkLawful(t, l, all, day, known, told)
		checkOpeners(t, l, all, day, known, told)
		checkWhen(t, l, all, known)
	})
	for _, kind := range []string{"uneven", "lawful 0", "lawful 1", "lawful 2", "openers", "shut"} {
		if told[kind] < 50 {
			t.Errorf("only %d of %s were tried", told[kind], kind)
		}
	}
}

func checkUneven(t *testing.T, l []api.Deed, day, known int) {
	t.Helper()
	for _, q := range questions(day) {
		got := q.ask(l, known)
		if q.name != "Consistent" && q.name != "Conflict" && (got[1] != api.ErrUneven || !same(got[0], nil) && got[0] != 0) {
			t.Errorf("%s = %v; expected ErrUneven", q.name, got)
		}
	}
}

func checkLocks(t *testing.T, l []api.Deed, all []world, day, known int) {
	t.Helper()
	for lock := 1; lock <= api.MaxLocks; lock++ {
		at := fmt.Sprint(lock, " on ", day, " as known on ", known)
		expect(t, "Holders of "+at, results(keys.Holders(l, lock, day, known)), gather(all, func(w world) int { return w.holder[lock] }), api.OK)
		expect(t, "Hands of "+at, results(keys.Hands(l, lock, day, known)), gather(all, func(w world) int { return w.hand[lock] }), api.OK)
		for person := 1; person <= people; person++ {
			expect(t, "Holds of "+at, results(keys.Holds(l, lock, person, day, known)), answerOf(all, func(w world) bool { return w.holder[lock] == person }), api.OK)
			expect(t, "Has of "+at, results(keys.Has(l, lock, person, day, known)), answerOf(all, func(w world) bool { return w.hand[lock] == person }), api.OK)
		}
	}
}

func checkOffices(t *testing.T, l []api.Deed, all []world, day, known int) {
	t.Helper()
	var wardens []int
	for person := 1; person <= people; person++ {
		want := answerOf(all, func(w world) bool { return w.office[person] })
		expect(t, "InOffice", results(keys.InOffice(l, person, day, known)), want, api.OK)
		if want == api.Yes {
			wardens = append(wardens, person)
		}
	}
	expect(t, "Wardens", results(keys.Wardens(l, day, known)), wardens, api.OK)
}

func checkLawful(t *testing.T, l []api.Deed, all []world, day, known int, told map[string]int) {
	t.Helper()
	for _, persons := range parties() {
		want := answerOf(all, func(w world) bool { return w.lawful(persons) })
		told[fmt.Sprint("lawful ", want)]++
		expect(t, fmt.Sprint("Lawful by ", persons), results(keys.Lawful(l, persons, day, known)), want, api.OK)
		for _, lawful := range []bool{false, true} {
			truth, e := keys.Show(l, persons, day, known, lawful)
			if want != api.Maybe && lawful != (want == api.Yes) {
				expect(t, fmt.Sprint("Show of ", persons), results(truth, e), nil, api.ErrNone)
				continue
			}
			if e != api.OK || keys.CheckTrue(l, known, truth) != api.OK || worldBy(counts(l, known), truth, day).lawful(persons) != lawful {
				t.Errorf("Show(%v, %v) = %v, %v", persons, lawful, truth, e)
			}
		}
		for _, w := range all[:min(len(all), 3)] {
			expect(t, fmt.Sprint("True of ", persons), results(keys.True(l, persons, w.days, day, known)), w.lawful(persons), api.OK)
		}
	}
}

func checkOpeners(t *testing.T, l []api.Deed, all []world, day, known int, told map[string]int) {
	t.Helper()
	var fewest [][]int
	for _, persons := range parties() {
		if answerOf(all, func(w world) bool { return w.lawful(persons) }) != api.Yes {
			continue
		}
		if len(fewest) > 0 && len(persons) < len(fewest[0]) {
			fewest = nil
		}
		if len(fewest) == 0 || len(persons) == len(fewest[0]) {
			fewest = append(fewest, persons)
		}
	}
	if len(fewest) == 0 {
		told["shut"]++
		expect(t, "Openers", results(keys.Openers(l, day, known)), nil, api.ErrShut)
		return
	}
	told["openers"]++
	expect(t, "Openers", results(keys.Openers(l, day, known)), fewest[0], api.OK)
	if len(fewest) > 1 {
		t.Errorf("openers are %v", fewest)
	}
}

func checkWhen(t *testing.T, l []api.Deed, all []world, known int) {
	t.Helper()
	count := counts(l, known)
	for i, d := range count {
		want := days(api.MaxDay, 0)
		for _, w := range all {
			want = days(min(want.Lo, w.days[i]), max(want.Hi, w.days[i]))
		}
		expect(t, fmt.Sprint("When of ", d.At), results(keys.When(l, d.At, known)), want, api.OK)
	}
	for _, d := range l {
		if !slices.Contains(count, d) {
			expect(t, fmt.Sprint("When of ", d.At), results(keys.When(l, d.At, known)), api.Range{}, api.ErrNone)
		}
	}
}
