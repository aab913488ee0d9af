package stem

import (
	"iter"
	"maps"
	"slices"

	"parvise/api"
	"parvise/basic"
)

// view is a stem that is looked at.
type view struct {
	api.Stem
	steps map[step]int // what each step costs; one that may not be is not there
}

// step is that a copy was copied from another one; or, from nobody's, that it is the root.
type step struct{ from, to int }

const nobody = 0

// set is a set of copies: the bits of their indexes.
type set int

func single(i int) set { return 1 << i }

func (s set) has(i int) bool { return s&single(i) != 0 }

// look returns what is seen of a stem. A root costs RootCost, so that one root, if it is enough, is always less than two.
func look(s api.Stem) view {
	v := view{Stem: s, steps: map[step]int{}}
	for _, to := range v.Copies {
		v.steps[step{nobody, to.Id}] = api.RootCost
		for _, from := range v.Copies {
			if from.Id != to.Id {
				v.steps[step{from.Id, to.Id}] = v.price(from, to)
			}
		}
	}
	for _, never := range v.Never {
		delete(v.steps, step{never.From, never.To})
	}
	return v
}

// open returns the view of a stem, or the first error.
func open(s api.Stem, others ...api.Errno) (view, api.Errno) {
	if e := basic.First(Check(s), basic.First(others...)); e != api.OK {
		return view{}, e
	}
	return look(s), api.OK
}

// settle is open for those who require a pedigree. It returns, too, what the least ones cost with their root.
func settle(s api.Stem, others ...api.Errno) (view, int, api.Errno) {
	v, e := open(s, others...)
	if e != api.OK {
		return view{}, 0, e
	}
	least := v.least()
	if !basic.Within(least, api.RootCost, 2*api.RootCost-1) {
		return view{}, 0, api.ErrApart
	}
	return v, least, api.OK
}

// all returns the set of all copies.
func (v view) all() set { return single(len(v.Copies)) - 1 }

// ids returns the Ids of a set, rising.
func (v view) ids(some set) []int {
	var ids []int
	for i, c := range v.Copies {
		if some.has(i) {
			ids = append(ids, c.Id)
		}
	}
	return ids
}

// between yields the steps to the copies of a set, in order, by which they were copied from those of another one, or are roots; and what each step costs.
func (v view) between(some, others set) iter.Seq2[step, int] {
	return func(yield func(step, int) bool) {
		from := slices.Concat([]int{nobody}, v.ids(some))
		for _, to := range v.ids(others) {
			for _, id := range from {
				s := step{id, to}
				if price, may := v.steps[s]; may && !yield(s, price) {
					return
				}
			}
		}
	}
}

// into yields the steps that lead into a set, and what each one costs.
func (v view) into(some set) iter.Seq2[step, int] { return v.between(v.all()&^some, some) }

// least returns what the least trees of all copies cost with their roots; 0 if there are none.
func (v view) least() int {
	trees := map[set]int{0: 0}
	// Each tree of more copies has a leaf: it is one without this leaf, and a step to it.
	for some := range v.all() {
		tree, are := trees[some]
		for i := range v.Copies {
			if !are || some.has(i) {
				continue
			}
			grown := some | single(i)
			for _, price := range v.between(some, single(i)) {
				if least, known := trees[grown]; !known || sum(tree, price) < least {
					trees[grown] = sum(tree, price)
				}
			}
		}
	}
	return trees[v.all()]
}

// only returns a view in which a step is the only one to its copy, if it may be.
func (v view) only(s step) view {
	v.steps = maps.Clone(v.steps)
	maps.DeleteFunc(v.steps, func(other step, _ int) bool { return other.to == s.to && other.from != s.from })
	return v
}

// without returns a view in which a step may not be.
func (v view) without(s step) view {
	v.steps = maps.Clone(v.steps)
	delete(v.steps, s)
	return v
}

// price returns what a copy costs that was copied from another one.
func (v view) price(from, to api.Copy) int {
	var prices []int
	for slip := range slips(from, to) {
		switch {
		case slip.To == 0:
			prices = append(prices, v.Costs.Lose)
		case slip.From == 0:
			prices = append(prices, v.Costs.Gain)
		case slip.To-slip.From == 1 || slip.From-slip.To == 1:
			prices = append(prices, v.Costs.Like)
		default:
			prices = append(prices, v.Costs.Turn)
		}
	}
	return sum(prices...)
}

// slips yields the errors of a copy that was copied from another one.
func slips(from, to api.Copy) iter.Seq[api.Slip] {
	return func(yield func(api.Slip) bool) {
		for place, word := range to.Words {
			old := from.Words[place]
			if word != old && !yield(api.Slip{Copy: to.Id, Place: place, From: old, To: word}) {
				return
			}
		}
	}
}

func sum(numbers ...int) int {
	total := 0
	for _, n := range numbers {
		total += n
	}
	return total
}
