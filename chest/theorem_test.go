package chest_test

import (
	"fmt"
	"math/rand/v2"
	"slices"
	"testing"

	"parvise/api"
	"parvise/chest"
)

func TestP62AsMany(t *testing.T) {
	fewest := map[int]int{}
	asMany := func(r *rand.Rand, l []api.Opening, known int) {
		n, e := chest.Fewest(l, known)
		by, f := chest.False(l, known)
		pairs, g := chest.Pairs(l, known)
		expect(t, "Fewest, False, Pairs", results(e, f, g, len(by), len(pairs)), api.OK, api.OK, api.OK, n, n)
		expect(t, fmt.Sprint("CheckFalse ", by), results(chest.CheckFalse(l, known, by)), api.OK)
		expect(t, fmt.Sprint("CheckPairs ", pairs), results(chest.CheckPairs(l, known, pairs)), api.OK)
		expect(t, "CheckPairs of fewer", results(chest.CheckPairs(l, known, pairs[n/2:])), api.OK)
		for i := range by {
			expect(t, "CheckFalse of fewer", results(chest.CheckFalse(l, known, slices.Delete(slices.Clone(by), i, i+1))), api.ErrCover)
		}
		fewest[n/5]++
	}
	eachSome(t, 621, 500, 8, 14, asMany)
	eachSome(t, 622, 200, api.MaxOpenings, 120, asMany)
	if fewest[0] < 100 || fewest[1] < 30 || fewest[2] < 50 || fewest[3] < 20 {
		t.Errorf("fives of openings that are false: %v", fewest)
	}
}

// TestP62NoFewer tries all openings and all pairs.
func TestP62NoFewer(t *testing.T) {
	eachSome(t, 623, 300, 7, 10, func(r *rand.Rand, l []api.Opening, known int) {
		n, _ := chest.Fewest(l, known)
		for _, by := range subsets(sources(l)) {
			if chest.CheckFalse(l, known, by) == api.OK && len(by) < n {
				t.Errorf("CheckFalse accepts %v", by)
			}
		}
		clashes, _ := chest.Clashes(l, known)
		for _, some := range subsets(upTo(min(len(clashes), 10))) {
			var pairs []api.Pair
			for _, i := range some {
				pairs = append(pairs, clashes[i-1])
			}
			if chest.CheckPairs(l, known, pairs) == api.OK && len(pairs) > n {
				t.Errorf("CheckPairs accepts %v", pairs)
			}
		}
	})
}

// someFalse returns random Sources of openings that may be false, none of which is not needed for that.
func someFalse(r *rand.Rand, l []api.Opening, known int) []int {
	clashes, _ := chest.Clashes(l, known)
	r.Shuffle(len(clashes), func(i, j int) { clashes[i], clashes[j] = clashes[j], clashes[i] })
	var by []int
	for _, pair := range clashes {
		if slices.Contains(by, pair.First) || slices.Contains(by, pair.Second) {
			continue
		}
		by = append(by, []int{pair.First, pair.Second}[r.IntN(2)])
	}
	slices.Sort(by)
	for i := len(by) - 1; i >= 0; i-- {
		if fewer := slices.Delete(slices.Clone(by), i, i+1); chest.CheckFalse(l, known, fewer) == api.OK {
			by = fewer
		}
	}
	return by
}

// TestP63True takes openings that were truly false.
func TestP63True(t *testing.T) {
	least, sure := 0, 0
	eachSome(t, 63, 800, 24, 50, func(r *rand.Rand, l []api.Opening, known int) {
		by := someFalse(r, l, known)
		expect(t, "CheckFalse of the truth", results(chest.CheckFalse(l, known, by)), api.OK)
		n, _ := chest.Fewest(l, known)
		if len(by) < n {
			t.Errorf("%v were false, and Fewest is %d", by, n)
		}
		if len(by) > n || n == 0 {
			return
		}
		least++
		for _, o := range l {
			answer, e := chest.True(l, o.Source, known)
			is := !slices.Contains(by, o.Source)
			if e == api.OK && (answer == api.Yes && !is || answer == api.No && is) {
				t.Errorf("True of %d is %d, but %v were false", o.Source, answer, by)
			}
		}
		for day := range 50 {
			for _, paper := range upTo(mostPapers) {
				answer, _ := chest.Inside(l, paper, day, known)
				if answer != api.Maybe {
					sure++
					expect(t, fmt.Sprint("Inside ", paper, day), results(answer), truly(l, by, paper, day, known))
				}
			}
		}
	})
	if least < 200 || sure < 2000 {
		t.Errorf("just %d lists, with %d sure papers", least, sure)
	}
}

// truly answers whether a paper lay in the chest, if some openings were false.
func truly(l []api.Opening, by []int, paper, day, known int) int {
	for _, o := range l {
		if !counts(o, known) || slices.Contains(by, o.Source) || day < o.Day || o.Through < day {
			continue
		}
		if slices.Contains(o.In, paper) {
			return api.Yes
		}
		if slices.Contains(o.Out, paper) {
			return api.No
		}
	}
	return api.Maybe
}

func TestP64Alone(t *testing.T) {
	alone, quiet := 0, 0
	eachSome(t, 64, 800, 20, 60, func(r *rand.Rand, l []api.Opening, known int) {
		clashes, _ := chest.Clashes(l, known)
		for _, o := range l {
			if !counts(o, known) || slices.ContainsFunc(clashes, func(p api.Pair) bool { return p.First == o.Source || p.Second == o.Source }) {
				continue
			}
			alone++
			expect(t, fmt.Sprint("True ", o.Source), results(chest.True(l, o.Source, known)), api.Yes, api.OK)
		}
		if len(clashes) == 0 {
			quiet++
			expect(t, "False", results(chest.False(l, known)), none, api.OK)
			expect(t, "Fewest", results(chest.Fewest(l, known)), 0, api.OK)
		} else if n, _ := chest.Fewest(l, known); n == 0 {
			t.Errorf("Fewest is 0, but there are %v", clashes)
		}
	})
	if alone < 2000 || quiet < 50 {
		t.Errorf("%d alone, %d lists without contradictions", alone, quiet)
	}
}

func TestP65OneMore(t *testing.T) {
	grown, shrunk := 0, 0
	eachSome(t, 65, 600, 20, 40, func(r *rand.Rand, l []api.Opening, known int) {
		n, _ := chest.Fewest(l, known)
		o := someOpening(r, 40)
		o.Source = 1 + 2*r.IntN(60)
		if more, e := chest.With(l, o); e == api.OK {
			m, _ := chest.Fewest(more, known)
			if m != n && m != n+1 {
				t.Errorf("Fewest is %d; with %v it is %d", n, o, m)
			}
			grown += m - n
		}
		for _, o := range l {
			less, _ := chest.Without(l, o.Source)
			m, _ := chest.Fewest(less, known)
			answer, e := chest.True(l, o.Source, known)
			want := n
			if e == api.OK && answer != api.Yes {
				want--
				shrunk++
			}
			expect(t, fmt.Sprint("Fewest without ", o.Source), results(m), want)
		}
	})
	if grown < 30 || shrunk < 500 {
		t.Errorf("%d more, %d less", grown, shrunk)
	}
}

// TestP66AsKnown adds what becomes known later, or ended before: nothing changes.
func TestP66AsKnown(t *testing.T) {
	added := 0
	eachSome(t, 66, 250, 8, 14, func(r *rand.Rand, l []api.Opening, known int) {
		ask := questions(l, 14)
		dates, e := chest.Dates(l)
		expect(t, "Dates", results(e), api.OK)
		date, is := 0, false
		for _, one := range dates {
			if one <= known {
				date, is = one, true
			}
		}
		for _, q := range ask {
			if is {
				expect(t, q.name+" on the last date", q.ask(l, date), q.ask(l, known)...)
			}
		}
		count := slices.DeleteFunc(slices.Clone(l), func(o api.Opening) bool { return !counts(o, known) })
		for _, q := range questions(count, 14) {
			expect(t, q.name+" of what counts", q.ask(count, known), q.ask(l, known)...)
		}
		later, ended := someOpening(r, 14), someOpening(r, 14)
		later.Source, later.Known, later.Until = 1, known+1, 0
		ended.Source, ended.Known, ended.Until = 99, 0, max(1, known)
		for _, o := range []api.Opening{later, ended} {
			more, e := chest.With(l, o)
			if e != api.OK || counts(o, known) {
				continue
			}
			added++
			for _, q := range ask {
				expect(t, q.name+" with one that does not count", q.ask(more, known), q.ask(l, known)...)
			}
			expect(t, "Moved", results(chest.Moved(more, o.Source, known)), none, api.OK)
		}
	})
	if added < 100 {
		t.Errorf("just %d openings that do not count", added)
	}
}
