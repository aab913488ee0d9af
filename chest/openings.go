package chest

import (
	"cmp"
	"iter"
	"slices"

	"parvise/api"
	"parvise/basic"
)

// openings is a list of them, in order.
type openings []api.Opening

// find returns where the opening with a source is, or would be, and whether it is there.
func (l openings) find(source int) (int, bool) {
	return slices.BinarySearchFunc(l, api.Opening{Source: source}, bySource)
}

func (l openings) has(source int) bool {
	_, is := l.find(source)
	return is
}

// without returns the openings without the one with a source.
func (l openings) without(source int) openings {
	return slices.DeleteFunc(slices.Clone(l), func(o api.Opening) bool { return o.Source == source })
}

// isApart reports whether no other opening of its register, which counts as well on some day, speaks of the days of an opening.
func (l openings) isApart(o api.Opening) bool {
	return !slices.ContainsFunc(l, func(other api.Opening) bool {
		return other.Source != o.Source && other.Register == o.Register && meet(o, other) && countTogether(o, other)
	})
}

// counting yields the openings that count, as known on a day.
func (l openings) counting(known int) iter.Seq[api.Opening] {
	return func(yield func(api.Opening) bool) {
		for _, o := range l {
			if basic.Counts(o.Known, o.Until, known) && !yield(o) {
				return
			}
		}
	}
}

// that returns the Sources, rising, of the openings of which something is so.
func (l openings) that(is func(api.Opening) bool) []int {
	var sources []int
	for _, o := range l {
		if is(o) {
			sources = append(sources, o.Source)
		}
	}
	return sources
}

// bySource orders openings.
func bySource(a, b api.Opening) int { return cmp.Compare(a.Source, b.Source) }

func daysOf(o api.Opening) api.Range { return api.Range{Lo: o.Day, Hi: o.Through} }

// hasDay reports whether an opening has a day.
func hasDay(o api.Opening, day int) bool { return basic.Within(day, o.Day, o.Through) }

// meet reports whether two openings have a day in common.
func meet(a, b api.Opening) bool { return max(a.Day, b.Day) <= min(a.Through, b.Through) }

// countTogether reports whether two openings both count, as known on some day. If so, they do from the day on which the later one becomes known.
func countTogether(a, b api.Opening) bool {
	known := max(a.Known, b.Known)
	return basic.Counts(a.Known, a.Until, known) && basic.Counts(b.Known, b.Until, known)
}

// contradict reports whether two openings that count contradict each other.
func contradict(a, b api.Opening) bool {
	return a.Register != b.Register && meet(a, b) && (basic.Share(a.In, b.Out) || basic.Share(a.Out, b.In))
}
