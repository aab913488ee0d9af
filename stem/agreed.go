package stem

import (
	"slices"

	"parvise/api"
	"parvise/basic"
)

const differ = -1

// Parent answers whether a copy was copied from another one, by all pedigrees of the least cost.
func Parent(s api.Stem, from, to int) (int, api.Errno) {
	v, least, e := settle(s, checkPair(s, from, to))
	if e != api.OK {
		return 0, e
	}
	so := step{from, to}
	return basic.Answer(v.only(so).least() == least, v.without(so).least() == least), api.OK
}

// Roots returns the copies that are roots of such pedigrees.
func Roots(s api.Stem) ([]int, api.Errno) {
	v, least, e := settle(s)
	if e != api.OK {
		return nil, e
	}
	var ids []int
	for _, c := range v.roots(least) {
		ids = append(ids, c.Id)
	}
	return ids, api.OK
}

// Show returns a pedigree of the least cost with a root.
func Show(s api.Stem, root int) ([]int, api.Errno) {
	v, least, e := settle(s, basic.Verdict(has(s, root), api.ErrArg))
	if e != api.OK {
		return nil, e
	}
	p := v.only(step{nobody, root}).first(least)
	return p, basic.Verdict(len(p) > 0, api.ErrNone)
}

// Words returns the words of the roots at a place.
func Words(s api.Stem, place int) ([]int, api.Errno) {
	v, least, e := settle(s, basic.Verdict(basic.Within(place, 0, places(s)-1), api.ErrPlace))
	if e != api.OK {
		return nil, e
	}
	return wordsOf(v.roots(least), place), api.OK
}

// Agreed returns the words on which all such pedigrees agree.
func Agreed(s api.Stem) ([]int, api.Errno) {
	v, least, e := settle(s)
	if e != api.OK {
		return nil, e
	}
	roots := v.roots(least)
	agreed := make([]int, places(s))
	for place := range agreed {
		words := wordsOf(roots, place)
		agreed[place] = words[0]
		if len(words) > 1 {
			agreed[place] = differ
		}
	}
	return agreed, api.OK
}

// Moved returns the copies without each of which other words are agreed on.
func Moved(s api.Stem) ([]int, api.Errno) {
	agreed, e := Agreed(s)
	if e != api.OK {
		return nil, e
	}
	var moved []int
	for _, c := range s.Copies {
		less, _ := Without(s, c.Id)
		others, e := Agreed(less)
		if e != api.OK || !slices.Equal(others, agreed) {
			moved = append(moved, c.Id)
		}
	}
	return moved, api.OK
}

// roots returns the roots of all pedigrees that cost as much as the least ones.
func (v view) roots(least int) []api.Copy {
	var roots []api.Copy
	for _, c := range v.Copies {
		if v.only(step{nobody, c.Id}).least() == least {
			roots = append(roots, c)
		}
	}
	return roots
}

// wordsOf returns the words that copies have at a place, rising.
func wordsOf(copies []api.Copy, place int) []int {
	var words []int
	for _, c := range copies {
		words = append(words, c.Words[place])
	}
	slices.Sort(words)
	return slices.Compact(words)
}
