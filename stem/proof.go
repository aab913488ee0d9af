package stem

import (
	"cmp"
	"slices"

	"parvise/api"
	"parvise/basic"
)

// Proof returns weights that show that no pedigree costs less.
func Proof(s api.Stem) ([]api.Weight, api.Errno) {
	v, _, e := settle(s)
	if e != api.OK {
		return nil, e
	}
	var l []api.Weight
	for some, least := v.loose(); some != 0; some, least = v.loose() {
		v.load(some, least)
		l = append(l, api.Weight{Set: int(some), Weight: least})
	}
	slices.SortFunc(l, bySet)
	return l, api.OK
}

// CheckProof reports whether weights show that no pedigree costs less than a number.
func CheckProof(s api.Stem, l []api.Weight, cost int) api.Errno {
	v, e := open(s)
	if e != api.OK {
		return e
	}
	ok := basic.Within(cost, 0, api.RootCost) && v.areWeights(l) && v.show(l, cost)
	return basic.Verdict(ok, api.ErrProof)
}

// bySet orders weights.
func bySet(a, b api.Weight) int { return cmp.Compare(a.Set, b.Set) }

func (v view) areWeights(l []api.Weight) bool {
	return len(l) <= api.MaxSets && basic.AreRising(l, bySet) && basic.AreAll(l, func(w api.Weight) bool {
		return basic.Within(w.Set, 1, int(v.all())) && basic.Within(w.Weight, 1, api.RootCost)
	})
}

// show reports whether no step bears more weights than it costs, and all weights are enough. The steps of the view are used up.
func (v view) show(l []api.Weight, cost int) bool {
	var weights []int
	for _, w := range l {
		if !v.load(set(w.Set), w.Weight) {
			return false
		}
		weights = append(weights, w.Weight)
	}
	return sum(weights...) >= sum(cost, api.RootCost)
}

// load takes a weight from what each step into a set costs, and reports whether none costs less than nothing.
func (v view) load(some set, weight int) bool {
	ok := true
	for s := range v.into(some) {
		v.steps[s] -= weight
		ok = ok && v.steps[s] >= 0
	}
	return ok
}

// loose returns the first set into which no step leads that costs nothing, and what the least of the steps into it costs; the empty set, if there is none. The first one has no other such set within it: so these sets lie within each other or apart, and a least pedigree enters each of them just once.
func (v view) loose() (set, int) {
search:
	for i := range v.all() {
		some, least := i+1, api.RootCost
		for _, price := range v.into(some) {
			if price == 0 {
				continue search
			}
			least = min(least, price)
		}
		return some, least
	}
	return 0, 0
}
