package keys

import (
	"iter"

	"parvise/api"
	"parvise/basic"
)

// name tells threads apart: a lock's names no person, a person's no lock.
type name struct{ lock, person int }

// thread is the deeds that count of one lock, or of one person's office, in order; each with its index among all deeds that count, and the state behind it.
type thread struct {
	deeds []api.Deed
	index []int
	after []state
}

// state is what the deeds of a thread lead to: of a lock its holder and its hand (0: nobody), of a person whether he is in office.
type state struct {
	holder, hand int
	office       bool
}

func nameOf(d api.Deed) name {
	if d.Lock == 0 {
		return name{person: d.Person}
	}
	return name{lock: d.Lock}
}

// counting returns the deeds that count, as known on a day.
func counting(l []api.Deed, known int) []api.Deed {
	var count []api.Deed
	for _, d := range l {
		if basic.Counts(d.Known, d.Until, known) {
			count = append(count, d)
		}
	}
	return count
}

// threads parts the deeds that count. A thread that it lacks is an empty one, as the zero value is.
func threads(count []api.Deed) map[name]thread {
	all, does := map[name]thread{}, effects()
	for i, d := range count {
		t := all[nameOf(d)]
		t.after = append(t.after, does[d.Kind](t.state(len(t.deeds)), d.Person))
		t.deeds = append(t.deeds, d)
		t.index = append(t.index, i)
		all[nameOf(d)] = t
	}
	return all
}

// state returns what the first n deeds lead to.
func (t thread) state(n int) state {
	if n == 0 {
		return state{}
	}
	return t.after[n-1]
}

// earliest returns the least true day of the i-th deed: none ahead of it is later.
func (t thread) earliest(i int) int {
	day := 0
	for _, d := range t.deeds[:i+1] {
		day = max(day, d.Day.Lo)
	}
	return day
}

// latest returns the greatest true day of the i-th deed: none behind it is earlier.
func (t thread) latest(i int) int {
	day := api.MaxDay
	for _, d := range t.deeds[i:] {
		day = min(day, d.Day.Hi)
	}
	return day
}

// may reports whether, by some true days, just the first n deeds have happened on a day. It needs no more than the two deeds beside the border, since true days do not fall.
func (t thread) may(n, day int) bool {
	return (n == 0 || t.earliest(n-1) <= day) && (n == len(t.deeds) || t.latest(n) > day)
}

// states yields how many deeds may have happened on a day, and what they lead to.
func (t thread) states(day int) iter.Seq2[int, state] {
	return func(yield func(int, state) bool) {
		for n := range len(t.deeds) + 1 {
			if t.may(n, day) && !yield(n, t.state(n)) {
				return
			}
		}
	}
}

// truly returns the state on a day by true days of all deeds that count.
func (t thread) truly(days []int, day int) state {
	n := 0
	for _, at := range t.index {
		if days[at] <= day {
			n++
		}
	}
	return t.state(n)
}

// settle sets true days of the thread's deeds: the first n as early as may be, the others as late as may be.
func (t thread) settle(days []int, n int) {
	pick := t.earliest
	for i, at := range t.index {
		if i == n {
			pick = t.latest
		}
		days[at] = pick(i)
	}
}

// ask answers whether something is so of the thread on a day.
func (t thread) ask(day int, is func(state) bool) int {
	var can, cannot bool
	for _, s := range t.states(day) {
		if is(s) {
			can = true
		} else {
			cannot = true
		}
	}
	return basic.Answer(can, cannot)
}

// effects returns what a deed of each kind makes of a state.
func effects() map[int]func(state, int) state {
	return map[int]func(state, int) state{
		api.DeSworn: state.sworn,
		api.DeLeft:  state.left,
		api.DeGiven: state.given,
		api.DeLent:  state.lent,
		api.DeBack:  state.back,
		api.DeLost:  state.lost,
	}
}

func (s state) sworn(int) state {
	s.office = true
	return s
}

func (s state) left(int) state {
	s.office = false
	return s
}

func (s state) given(person int) state {
	s.holder, s.hand = person, person
	return s
}

func (s state) lent(person int) state {
	// Nobody lends a key that nobody holds.
	if s.holder != 0 {
		s.hand = person
	}
	return s
}

func (s state) back(int) state {
	s.hand = s.holder
	return s
}

func (s state) lost(int) state {
	s.holder, s.hand = 0, 0
	return s
}
