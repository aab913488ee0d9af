package keys_test

import (
	"fmt"
	"strings"
	"testing"

	"parvise/api"
	"parvise/keys"
)

// args are arguments, of which each call takes some.
type args struct {
	l            []api.Deed
	lock, person int
	persons      []int
	day, known   int
}

// call is a function, what it takes beside deeds and known, in words, and its other result with an error.
type call struct {
	name, takes string
	none        any
	ask         func(a args) result
}

func calls() []call {
	return []call{
		{"Consistent", "", false, func(a args) result { return results(keys.Consistent(a.l, a.known)) }},
		{"Conflict", "", nil, func(a args) result { return results(keys.Conflict(a.l, a.known)) }},
		{"CheckConflict", "", nil, func(a args) result { return results(nil, keys.CheckConflict(a.l, a.known, nil)) }},
		{"When", "even", api.Range{}, func(a args) result { return results(keys.When(a.l, item(0), a.known)) }},
		{"CheckTrue", "", nil, func(a args) result { return results(nil, keys.CheckTrue(a.l, a.known, nil)) }},
		{"Holders", "lock day even", nil, func(a args) result { return results(keys.Holders(a.l, a.lock, a.day, a.known)) }},
		{"Hands", "lock day even", nil, func(a args) result { return results(keys.Hands(a.l, a.lock, a.day, a.known)) }},
		{"Holds", "lock person day even", 0, func(a args) result { return results(keys.Holds(a.l, a.lock, a.person, a.day, a.known)) }},
		{"Has", "lock person day even", 0, func(a args) result { return results(keys.Has(a.l, a.lock, a.person, a.day, a.known)) }},
		{"InOffice", "person day even", 0, func(a args) result { return results(keys.InOffice(a.l, a.person, a.day, a.known)) }},
		{"Wardens", "day even", nil, func(a args) result { return results(keys.Wardens(a.l, a.day, a.known)) }},
		{"Lawful", "list day even", 0, func(a args) result { return results(keys.Lawful(a.l, a.persons, a.day, a.known)) }},
		{"True", "list day", false, func(a args) result { return results(keys.True(a.l, a.persons, nil, a.day, a.known)) }},
		{"Show", "list day even", nil, func(a args) result { return results(keys.Show(a.l, a.persons, a.day, a.known, true)) }},
		{"Openers", "day even", nil, func(a args) result { return results(keys.Openers(a.l, a.day, a.known)) }},
		{"Changed to", "day", nil, func(a args) result { return results(keys.Changed(a.l, a.day, 0, a.known)) }},
		{"Changed from", "day", nil, func(a args) result { return results(keys.Changed(a.l, a.day, a.known, 0)) }},
		{"Moved", "day", nil, func(a args) result { return results(keys.Moved(a.l, item(77), a.day, a.known)) }},
	}
}

// TestP11Errors gives each function ever fewer wrong arguments: the error named first is due.
func TestP11Errors(t *testing.T) {
	for _, c := range calls() {
		a := args{l: wrong(), lock: 4, persons: []int{2, 1}, day: -1, known: -1}
		refuse := func(e api.Errno) {
			t.Helper()
			expect(t, fmt.Sprint(c.name, " of ", a), c.ask(a), c.none, e)
		}
		refuse(api.ErrDeeds)
		a.l = uneven()
		if strings.Contains(c.takes, "lock") {
			for _, a.lock = range []int{-1, 0, 4} {
				refuse(api.ErrLock)
			}
		}
		a.lock = 3
		if strings.Contains(c.takes, "person") {
			for _, a.person = range []int{-1, 0, 100} {
				refuse(api.ErrPersons)
			}
		}
		a.person = 99
		if strings.Contains(c.takes, "list") {
			for _, a.persons = range [][]int{{2, 1}, {1, 1}, {0}, {1, 100}, {1, 2, 3, 4, 5, 6, 7, 8, 9, 10, 11, 12, 13}} {
				refuse(api.ErrPersons)
			}
		}
		a.persons = []int{1, 2, 3, 4, 5, 6, 7, 8, 9, 10, 11, 99}
		checkDayErrors(t, c, a)
	}
}

// checkDayErrors gives a function days that are none, and then deeds that contradict each other.
func checkDayErrors(t *testing.T, c call, a args) {
	t.Helper()
	for _, a.known = range []int{-1, api.MaxDay + 1} {
		expect(t, fmt.Sprint(c.name, " of ", a), c.ask(a), c.none, api.ErrDay)
	}
	a.day = 0
	for _, a.known = range []int{-1, api.MaxDay + 1} {
		expect(t, fmt.Sprint(c.name, " of ", a), c.ask(a), c.none, api.ErrDay)
	}
	a.known = 0
	if strings.Contains(c.takes, "day") {
		for _, a.day = range []int{-1, api.MaxDay + 1} {
			expect(t, fmt.Sprint(c.name, " of ", a), c.ask(a), c.none, api.ErrDay)
		}
	}
	for _, a.day = range []int{0, api.MaxDay} {
		for _, a.known = range []int{0, api.MaxDay} {
			got := c.ask(a)
			if strings.Contains(c.takes, "even") {
				expect(t, fmt.Sprint(c.name, " of ", a), got, c.none, api.ErrUneven)
			} else if got[1] == api.ErrUneven || got[1] == api.ErrDay {
				t.Errorf("%s of %v: %v", c.name, a, got)
			}
		}
	}
}

func TestP11LastErrors(t *testing.T) {
	expect(t, "When of no deed", results(keys.When(uneven(), item(99), 9)), api.Range{}, api.ErrNone)
	expect(t, "When of no deed as known on no day", results(keys.When(uneven(), item(99), -1)), api.Range{}, api.ErrDay)
	expect(t, "When of one that does not count", results(keys.When(uneven(), item(8), 74)), api.Range{}, api.ErrNone)
	expect(t, "Moved of no deed", results(keys.Moved(uneven(), item(99), 0, 9)), nil, api.ErrNone)
	expect(t, "True of deeds that contradict each other", results(keys.True(uneven(), nil, nil, 0, 9)), false, api.ErrTrue)
}
