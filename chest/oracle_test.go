package chest_test

import (
	"fmt"
	"math/bits"
	"math/rand/v2"
	"slices"
	"testing"

	"parvise/api"
	"parvise/chest"
)

// truth is what the chapter's terms say of openings, as known on a day, reading by reading.
type truth struct {
	l        []api.Opening // those that count
	clashes  []api.Pair
	fewest   int
	readings []int // by bits of their indices
}

func truthOf(l []api.Opening, known int) *truth {
	o := &truth{}
	for _, one := range l {
		if counts(one, known) {
			o.l = append(o.l, one)
		}
	}
	for _, a := range o.l {
		for _, b := range o.l {
			if a.Register == 1 && b.Register == 2 && contradict(a, b) {
				o.clashes = append(o.clashes, api.Pair{First: a.Source, Second: b.Source})
			}
		}
	}
	o.fewest = len(o.l)
	for set := range 1 << len(o.l) {
		if n := bits.OnesCount(uint(set)); o.mayBeFalse(o.sources(set)) {
			if n < o.fewest {
				o.fewest, o.readings = n, nil
			}
			if n == o.fewest {
				o.readings = append(o.readings, set)
			}
		}
	}
	return o
}

// contradict reports whether one of two openings says of a paper that it is in, and the other one that it is out, on some day.
func contradict(a, b api.Opening) bool {
	for day := max(a.Day, b.Day); day <= min(a.Through, b.Through); day++ {
		for paper := range mostPapers + 1 {
			if slices.Contains(a.In, paper) && slices.Contains(b.Out, paper) || slices.Contains(a.Out, paper) && slices.Contains(b.In, paper) {
				return true
			}
		}
	}
	return false
}

// sources returns the Sources of those in a set of openings.
func (o *truth) sources(set int) []int {
	var l []int
	for i, one := range o.l {
		if set>>i%2 == 1 {
			l = append(l, one.Source)
		}
	}
	return l
}

// mayBeFalse reports whether of each two that contradict each other one is in a list.
func (o *truth) mayBeFalse(by []int) bool {
	for _, pair := range o.clashes {
		if !slices.Contains(by, pair.First) && !slices.Contains(by, pair.Second) {
			return false
		}
	}
	return true
}

// arePairs reports whether pairs contradict each other, with no opening twice, in order.
func (o *truth) arePairs(pairs []api.Pair) bool {
	for i, pair := range pairs {
		if !slices.Contains(o.clashes, pair) || i > 0 && pairs[i-1].First >= pair.First {
			return false
		}
		for _, other := range pairs[:i] {
			if other.Second == pair.Second {
				return false
			}
		}
	}
	return true
}

// answer answers whether something is so by all readings, by none, or otherwise. What is told is 1 if it is so, -1 if it is not, and 0 if nothing is told.
func (o *truth) answer(told func(set int) int) int {
	seen := map[int]bool{}
	for _, set := range o.readings {
		seen[told(set)] = true
	}
	switch {
	case len(seen) > 1 || seen[0]:
		return api.Maybe
	case seen[1]:
		return api.Yes
	}
	return api.No
}

func (o *truth) isTrue(source int) int {
	return o.answer(func(set int) int {
		if slices.Contains(o.sources(set), source) {
			return -1
		}
		return 1
	})
}

func (o *truth) inside(paper, day int) int {
	return o.answer(func(set int) int {
		told := 0
		for i, one := range o.l {
			if set>>i%2 == 1 || day < one.Day || day > one.Through {
				continue
			}
			if slices.Contains(one.In, paper) {
				told++
			}
			if slices.Contains(one.Out, paper) {
				told--
			}
		}
		return max(-1, min(told, 1))
	})
}

func (o *truth) sealed(day int) int {
	return o.answer(func(set int) int {
		for i, one := range o.l {
			if set>>i%2 == 0 && one.Day <= day && day <= one.Through {
				return 1
			}
		}
		return -1
	})
}

func (o *truth) papers() []int {
	var l []int
	for paper := range mostPapers + 1 {
		for _, one := range o.l {
			if slices.Contains(one.In, paper) || slices.Contains(one.Out, paper) {
				l = append(l, paper)
				break
			}
		}
	}
	return l
}

// TestP61Truth holds all answers about random openings against all their readings.
func TestP61Truth(t *testing.T) {
	fewest, several := map[int]int{}, 0
	eachSome(t, 61, 1500, 9, 16, func(r *rand.Rand, l []api.Opening, known int) {
		o := truthOf(l, known)
		checkFalse(t, r, l, known, o)
		checkTrue(t, l, known, o)
		checkInside(t, l, known, o)
		fewest[o.fewest]++
		if len(o.readings) > 1 {
			several++
		}
	})
	if fewest[0] < 100 || fewest[1] < 100 || fewest[2] < 100 || fewest[3] < 50 || several < 500 {
		t.Errorf("as many are false: %v; several readings: %d", fewest, several)
	}
}

// TestP61Long holds what is true by the readings of twice as many openings against all of them.
func TestP61Long(t *testing.T) {
	fewest := map[int]int{}
	eachSome(t, 62, 40, 15, 24, func(r *rand.Rand, l []api.Opening, known int) {
		o := truthOf(l, known)
		expect(t, "Fewest", results(chest.Fewest(l, known)), o.fewest, api.OK)
		for _, one := range o.l {
			expect(t, fmt.Sprint("True ", one.Source), results(chest.True(l, one.Source, known)), o.isTrue(one.Source), api.OK)
		}
		fewest[o.fewest]++
	})
	if fewest[4]+fewest[5]+fewest[6]+fewest[7] < 5 {
		t.Errorf("as many are false: %v", fewest)
	}
}

// checkFalse checks what is about contradictions.
func checkFalse(t *testing.T, r *rand.Rand, l []api.Opening, known int, o *truth) {
	t.Helper()
	expect(t, "Check", results(chest.Check(l)), api.OK)
	expect(t, "Clashes", results(chest.Clashes(l, known)), o.clashes, api.OK)
	expect(t, "Fewest", results(chest.Fewest(l, known)), o.fewest, api.OK)
	by, e := chest.False(l, known)
	expect(t, fmt.Sprint("False ", by), results(len(by), o.mayBeFalse(by), slices.IsSorted(by), e), o.fewest, true, true, api.OK)
	for set := range 1 << len(o.l) {
		by := o.sources(set)
		expect(t, fmt.Sprint("CheckFalse ", by), results(chest.CheckFalse(l, known, by)), verdict(o.mayBeFalse(by), api.ErrCover))
	}
	pairs, e := chest.Pairs(l, known)
	expect(t, fmt.Sprint("Pairs ", pairs), results(len(pairs), o.arePairs(pairs), e), o.fewest, true, api.OK)
	for range 10 {
		some := slices.Clone(o.clashes)
		r.Shuffle(len(some), func(i, j int) { some[i], some[j] = some[j], some[i] })
		some = some[:r.IntN(min(4, len(some)+1))]
		if r.IntN(8) > 0 {
			slices.SortFunc(some, func(a, b api.Pair) int { return a.First - b.First })
		}
		if len(some) > 0 && len(o.l) > 0 && r.IntN(8) == 0 {
			some[0].Second = o.l[r.IntN(len(o.l))].Source
		}
		expect(t, fmt.Sprint("CheckPairs ", some), results(chest.CheckPairs(l, known, some)), verdict(o.arePairs(some), api.ErrPairs))
	}
}

// checkTrue checks what is about openings that are true.
func checkTrue(t *testing.T, l []api.Opening, known int, o *truth) {
	t.Helper()
	var unlawful []int
	for _, one := range l {
		answer, e := o.isTrue(one.Source), api.OK
		if !counts(one, known) {
			answer, e = 0, api.ErrSource
		} else if answer == api.Yes && one.Lawful == api.No {
			unlawful = append(unlawful, one.Source)
		}
		expect(t, fmt.Sprint("True ", one.Source), results(chest.True(l, one.Source, known)), answer, e)
		less := truthOf(slices.DeleteFunc(slices.Clone(l), func(other api.Opening) bool { return other.Source == one.Source }), known)
		var moved []int
		for _, other := range less.l {
			if o.isTrue(other.Source) != less.isTrue(other.Source) {
				moved = append(moved, other.Source)
			}
		}
		expect(t, fmt.Sprint("Moved ", one.Source), results(chest.Moved(l, one.Source, known)), moved, api.OK)
	}
	expect(t, "Unlawful", results(chest.Unlawful(l, known)), unlawful, api.OK)
}

// checkInside checks what is about days.
func checkInside(t *testing.T, l []api.Opening, known int, o *truth) {
	t.Helper()
	expect(t, "Papers", results(chest.Papers(l, known)), o.papers(), api.OK)
	for day := range 18 {
		expect(t, fmt.Sprint("Sealed ", day), results(chest.Sealed(l, day, known)), o.sealed(day), api.OK)
		var content []int
		for _, paper := range upTo(mostPapers + 1) {
			answer := o.inside(paper, day)
			expect(t, fmt.Sprint("Inside ", paper, day), results(chest.Inside(l, paper, day, known)), answer, api.OK)
			if answer == api.Yes {
				content = append(content, paper)
			}
		}
		expect(t, fmt.Sprint("Content ", day), results(chest.Content(l, day, known)), content, api.OK)
	}
}
