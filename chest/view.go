package chest

import (
	"iter"
	"slices"

	"parvise/api"
	"parvise/basic"
)

// view is openings that are looked at: those that count, as known on a day.
type view struct {
	openings
	against map[int][]int // by its Source: the Sources, rising, of those that contradict an opening
	fewest  int           // how many openings a reading has
}

// look returns what is seen of openings, as known on a day.
func look(l openings, known int) view {
	v := view{against: map[int][]int{}}
	for o := range l.counting(known) {
		v.openings = append(v.openings, o)
	}
	for _, o := range v.openings {
		v.against[o.Source] = v.that(func(other api.Opening) bool { return contradict(o, other) })
	}
	// The most pairs are as many as the fewest openings without which none contradict each other (König).
	v.fewest = len(v.pairs())
	return v
}

// open returns the view of openings, or the first error: some others come ahead of that of the day as known on which they are looked at.
func open(l []api.Opening, known int, others ...api.Errno) (view, api.Errno) {
	if e := basic.First(Check(l), basic.First(others...), basic.CheckDays(known)); e != api.OK {
		return view{}, e
	}
	return look(l, known), api.OK
}

// clashes yields the pairs that contradict each other, in order.
func (v view) clashes() iter.Seq[api.Pair] {
	return func(yield func(api.Pair) bool) {
		for _, source := range v.that(isFirst) {
			for _, other := range v.against[source] {
				if !yield(api.Pair{First: source, Second: other}) {
					return
				}
			}
		}
	}
}

// pairs returns the most pairs that contradict each other, no opening in two of them, and none that is left out: by the Source of the second opening that of the first one.
func (v view) pairs(out ...int) map[int]int {
	pairs, tried := map[int]int{}, map[int]bool{}
	var join func(source int) bool
	join = func(source int) bool {
		for _, partner := range v.against[source] {
			if tried[partner] || slices.Contains(out, partner) {
				continue
			}
			tried[partner] = true
			other, taken := pairs[partner]
			// A partner is free if the one that has it finds another one.
			if !taken || join(other) {
				pairs[partner] = source
				return true
			}
		}
		return false
	}
	for _, source := range v.that(isFirst) {
		if !slices.Contains(out, source) {
			clear(tried)
			join(source)
		}
	}
	return pairs
}

// mayAllBeFalse reports whether all of some openings are in one reading.
func (v view) mayAllBeFalse(some ...int) bool { return len(some)+len(v.pairs(some...)) == v.fewest }

// mayBeTrue reports whether an opening is true by some reading. It is, if all that contradict it are false: a reading, which has the fewest openings, has none that is not needed.
func (v view) mayBeTrue(source int) bool { return v.mayAllBeFalse(v.against[source]...) }

// truth answers whether an opening is true.
func (v view) truth(source int) int {
	return basic.Answer(v.mayBeTrue(source), v.mayAllBeFalse(source))
}

func isFirst(o api.Opening) bool { return o.Register == first }
