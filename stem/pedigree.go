package stem

import (
	"slices"

	"parvise/api"
	"parvise/basic"
)

// Cost returns what it costs to copy one copy from another one.
func Cost(s api.Stem, from, to int) (int, api.Errno) {
	v, e := open(s, checkPair(s, from, to))
	if e != api.OK {
		return 0, e
	}
	cost, may := v.steps[step{from, to}]
	return cost, basic.Verdict(may, api.ErrNone)
}

// Fewest returns the least cost of a pedigree.
func Fewest(s api.Stem) (int, api.Errno) {
	_, least, e := settle(s)
	if e != api.OK {
		return 0, e
	}
	return least - api.RootCost, api.OK
}

// Pedigree returns the first pedigree of the least cost.
func Pedigree(s api.Stem) ([]int, api.Errno) {
	v, least, e := settle(s)
	if e != api.OK {
		return nil, e
	}
	return v.first(least), api.OK
}

// CheckPedigree reports whether a list is a pedigree.
func CheckPedigree(s api.Stem, p []int) api.Errno {
	_, e := trace(s, p)
	return e
}

// CostOf returns what a pedigree costs.
func CostOf(s api.Stem, p []int) (int, api.Errno) {
	v, e := trace(s, p)
	if e != api.OK {
		return 0, e
	}
	var costs []int
	for i, from := range p {
		costs = append(costs, v.steps[step{from, v.Copies[i].Id}])
	}
	return sum(costs...) - api.RootCost, api.OK
}

// Slips returns the errors of a pedigree.
func Slips(s api.Stem, p []int) ([]api.Slip, api.Errno) {
	v, e := trace(s, p)
	if e != api.OK {
		return nil, e
	}
	var all []api.Slip
	for i, from := range p {
		if from != nobody {
			all = slices.AppendSeq(all, slips(v.copyOf(from), v.Copies[i]))
		}
	}
	return all, api.OK
}

// checkPair reports whether two numbers are the Ids of two different copies.
func checkPair(s api.Stem, from, to int) api.Errno {
	return basic.Verdict(isAbout(s)(api.Never{From: from, To: to}), api.ErrArg)
}

// trace is open for those who take a pedigree.
func trace(s api.Stem, p []int) (view, api.Errno) {
	v, e := open(s)
	if e != api.OK {
		return view{}, e
	}
	if !v.isPedigree(p) {
		return view{}, api.ErrPedigree
	}
	return v, api.OK
}

func (v view) copyOf(id int) api.Copy {
	at, _ := slices.BinarySearchFunc(v.Copies, api.Copy{Id: id}, byId)
	return v.Copies[at]
}

func (v view) isPedigree(p []int) bool {
	if len(p) != len(v.Copies) {
		return false
	}
	parents := map[int]int{}
	roots := 0
	for i, from := range p {
		to := v.Copies[i].Id
		if _, may := v.steps[step{from, to}]; !may {
			return false
		}
		if from == nobody {
			roots++
		}
		parents[to] = from
	}
climb:
	for _, id := range p {
		for range p {
			if id == nobody {
				continue climb
			}
			id = parents[id]
		}
		return false
	}
	return roots == 1
}

// first returns the first pedigree that costs as much as the least ones.
func (v view) first(least int) []int {
	// Since a step is taken only if a least pedigree begins so, no step is ever taken back.
	var search func(v view, i int) []int
	search = func(v view, i int) []int {
		if i == len(v.Copies) {
			return nil
		}
		for s := range v.into(single(i)) {
			if only := v.only(s); only.least() == least {
				return slices.Concat([]int{s.from}, search(only, i+1))
			}
		}
		return nil
	}
	return search(v, 0)
}
