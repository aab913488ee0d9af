package chest

import (
	"slices"

	"parvise/api"
	"parvise/basic"
)

// True answers whether an opening is true.
func True(l []api.Opening, source, known int) (int, api.Errno) {
	v, e := open(l, known)
	if e := basic.First(e, basic.Verdict(v.has(source), api.ErrSource)); e != api.OK {
		return 0, e
	}
	return v.truth(source), api.OK
}

// Inside answers whether a paper lay in the chest on a day.
func Inside(l []api.Opening, paper, day, known int) (int, api.Errno) {
	v, e := open(l, known, basic.CheckPaper(paper), basic.CheckDays(day))
	if e != api.OK {
		return 0, e
	}
	return v.inside(paper, day), api.OK
}

// Sealed answers whether the chest was sealed on a day.
func Sealed(l []api.Opening, day, known int) (int, api.Errno) {
	v, e := open(l, known, basic.CheckDays(day))
	if e != api.OK {
		return 0, e
	}
	sealed := v.that(func(o api.Opening) bool { return hasDay(o, day) })
	return basic.Answer(slices.ContainsFunc(sealed, v.mayBeTrue), v.mayAllBeFalse(sealed...)), api.OK
}

// Unlawful returns the openings that are true and were not lawful.
func Unlawful(l []api.Opening, known int) ([]int, api.Errno) {
	v, e := open(l, known)
	if e != api.OK {
		return nil, e
	}
	return v.that(func(o api.Opening) bool { return o.Lawful == api.No && v.truth(o.Source) == api.Yes }), api.OK
}

// Papers returns the papers that openings name.
func Papers(l []api.Opening, known int) ([]int, api.Errno) {
	v, e := open(l, known)
	if e != api.OK {
		return nil, e
	}
	return v.papers(), api.OK
}

// Content returns the papers that surely lay in the chest on a day.
func Content(l []api.Opening, day, known int) ([]int, api.Errno) {
	v, e := open(l, known, basic.CheckDays(day))
	if e != api.OK {
		return nil, e
	}
	return slices.DeleteFunc(v.papers(), func(paper int) bool { return v.inside(paper, day) != api.Yes }), api.OK
}

// Moved returns the openings whose truth would be another one without one.
func Moved(l []api.Opening, source, known int) ([]int, api.Errno) {
	with, e := open(l, known)
	if e := basic.First(e, checkSource(l, source)); e != api.OK {
		return nil, e
	}
	without := look(openings(l).without(source), known)
	return without.that(func(o api.Opening) bool { return with.truth(o.Source) != without.truth(o.Source) }), api.OK
}

// inside answers whether a paper lay in the chest on a day. By no reading it both did and did not: openings that say so contradict each other, or do not count both.
func (v view) inside(paper, day int) int {
	in := v.that(func(o api.Opening) bool { return hasDay(o, day) && slices.Contains(o.In, paper) })
	out := v.that(func(o api.Opening) bool { return hasDay(o, day) && slices.Contains(o.Out, paper) })
	switch {
	case !v.mayAllBeFalse(in...):
		return api.Yes
	case !v.mayAllBeFalse(out...):
		return api.No
	}
	return api.Maybe
}

// papers returns the papers that openings name, rising.
func (v view) papers() []int {
	var named []int
	for _, o := range v.openings {
		named = slices.Concat(named, o.In, o.Out)
	}
	return basic.Rising(named...)
}
