package chest_test

import (
	"fmt"
	"slices"
	"testing"

	"parvise/api"
	"parvise/chest"
)

func TestP61Examples(t *testing.T) {
	l := example()
	pair := func(first, second int) api.Pair { return api.Pair{First: first, Second: second} }
	expect(t, "Check", results(chest.Check(l)), api.OK)
	expect(t, "Clashes(7)", results(chest.Clashes(l, 7)), []api.Pair{}, api.OK)
	expect(t, "Clashes(8)", results(chest.Clashes(l, 8)), []api.Pair{pair(1, 3), pair(2, 3)}, api.OK)
	expect(t, "Clashes(20)", results(chest.Clashes(l, 20)), []api.Pair{pair(1, 3), pair(1, 5), pair(2, 3)}, api.OK)
	for known, fewest := range map[int]int{0: 0, 7: 0, 8: 1, 19: 1, 20: 2, api.MaxDay: 2} {
		expect(t, fmt.Sprint("Fewest ", known), results(chest.Fewest(l, known)), fewest, api.OK)
	}
	expect(t, "False(8)", results(chest.False(l, 8)), []int{3}, api.OK)
	expect(t, "CheckFalse(8, 1 2)", results(chest.CheckFalse(l, 8, []int{1, 2})), api.OK)
	expect(t, "CheckFalse(8, 1)", results(chest.CheckFalse(l, 8, []int{1})), api.ErrCover)
	expect(t, "Pairs(20)", results(chest.Pairs(l, 20)), []api.Pair{pair(1, 5), pair(2, 3)}, api.OK)
	for source, answer := range map[int]int{1: api.Yes, 2: api.Yes, 3: api.No, 4: api.Yes} {
		expect(t, fmt.Sprint("True(8) ", source), results(chest.True(l, source, 8)), answer, api.OK)
	}
	for source, answer := range map[int]int{1: api.Maybe, 2: api.Maybe, 3: api.Maybe, 4: api.Yes, 5: api.Maybe} {
		expect(t, fmt.Sprint("True(20) ", source), results(chest.True(l, source, 20)), answer, api.OK)
	}
	expect(t, "True(7) of what is not known yet", results(chest.True(l, 3, 7)), 0, api.ErrSource)
	for _, c := range [][3]int{{5, 25, api.Yes}, {9, 25, api.No}, {9, 55, api.Yes}, {9, 65, api.Yes}} {
		expect(t, fmt.Sprint("Inside(8) ", c), results(chest.Inside(l, c[0], c[1], 8)), c[2], api.OK)
	}
	for _, c := range [][3]int{{35, 7, api.No}, {35, 8, api.No}, {25, 8, api.Yes}, {25, 20, api.Maybe}} {
		expect(t, fmt.Sprint("Sealed ", c), results(chest.Sealed(l, c[0], c[1])), c[2], api.OK)
	}
	expect(t, "Unlawful(8)", results(chest.Unlawful(l, 8)), []int{2}, api.OK)
	expect(t, "Unlawful(20)", results(chest.Unlawful(l, 20)), none, api.OK)
	expect(t, "Content(55, 8)", results(chest.Content(l, 55, 8)), []int{5, 9}, api.OK)
	expect(t, "Papers(7)", results(chest.Papers(l, 7)), []int{5, 7, 9}, api.OK)
	expect(t, "Moved(3, 8)", results(chest.Moved(l, 3, 8)), none, api.OK)
	expect(t, "Moved(5, 20)", results(chest.Moved(l, 5, 20)), []int{1, 2, 3}, api.OK)
	expect(t, "Print", results(chest.Print(l[2:3])), "opening 3 2 20 45 2 8 0 in 9 out 5\n", api.OK)
}

func TestP61With(t *testing.T) {
	l := example()
	for i := range l {
		l[i].Source = 11 + 10*i
	}
	for source, at := range map[int]int{1: 0, 10: 0, 12: 1, 35: 3, 52: 5, 99999: 5} {
		o := during(3, 4, lawful(api.No, opening(source, 1, 31, 39, papers(8), papers(9))))
		more := slices.Insert(slices.Clone(l), at, o)
		expect(t, fmt.Sprint("With ", o), results(chest.With(l, o)), more, api.OK)
		expect(t, fmt.Sprint("Without ", source), results(chest.Without(more, source)), l, api.OK)
	}
	expect(t, "With the first one", results(chest.With(nil, l[2])), l[2:3], api.OK)
	expect(t, "Without the only one", results(chest.Without(l[2:3], 31)), none, api.OK)
	expect(t, "Without one of nothing", results(chest.Without(nil, 1)), none, api.ErrNone)
	for _, o := range []api.Opening{{}, opening(0, 1, 31, 39, nil, nil), opening(100000, 1, 31, 39, nil, nil), opening(12, 3, 31, 39, nil, nil), opening(12, 1, 39, 31, nil, nil), opening(12, 1, 31, 39, papers(8), papers(8)), opening(11, 1, 31, 39, nil, nil), opening(51, 1, 31, 39, nil, nil), l[0]} {
		expect(t, fmt.Sprint("With ", o), results(chest.With(l, o)), none, api.ErrOpening)
	}
	for _, o := range []api.Opening{opening(12, 1, 30, 39, nil, nil), opening(12, 1, 31, 40, nil, nil), opening(12, 2, 0, 5, nil, nil)} {
		expect(t, fmt.Sprint("With ", o), results(chest.With(l, o)), none, api.ErrRegister)
	}
	expect(t, "With one day more", results(chest.With(l, opening(1, 2, 13, 19, nil, nil))), slices.Concat([]api.Opening{opening(1, 2, 13, 19, nil, nil)}, l), api.OK)
}

func TestP61WithFull(t *testing.T) {
	free, taken := opening(1, 1, 0, 9, nil, nil), during(fullKnown, 0, opening(1, 1, api.MaxDay-5, api.MaxDay, nil, nil))
	expect(t, "With in what is full", results(chest.With(full(), free)), none, api.ErrLong)
	expect(t, "With on the days of others in what is full", results(chest.With(full(), taken)), none, api.ErrLong)
	free.Lawful = 3
	expect(t, "With what is none in what is full", results(chest.With(full(), free)), none, api.ErrOpening)
	expect(t, "With one twice in what is full", results(chest.With(full(), full()[7])), none, api.ErrOpening)
	less := full()[1:]
	expect(t, "With the last one", results(chest.With(less, full()[0])), full(), api.OK)
	expect(t, "With the last one, on the days of others", results(chest.With(less, taken)), none, api.ErrRegister)
	expect(t, "Without one of what is full", results(chest.Without(full(), 99940)), less, api.OK)
}

func TestP61Dates(t *testing.T) {
	expect(t, "Dates of nothing", results(chest.Dates(nil)), none, api.OK)
	expect(t, "Dates", results(chest.Dates(example())), []int{0, 8, 20}, api.OK)
	l := example()
	l[0].Until, l[1].Known, l[1].Until, l[3].Known, l[3].Until = 20, 30, 31, 9, api.MaxDay
	expect(t, "Dates with ends", results(chest.Dates(l)), []int{0, 8, 9, 20, 30, 31, api.MaxDay}, api.OK)
	expect(t, "Dates without the day 0", results(chest.Dates(example()[2:3])), []int{8}, api.OK)
}

// TestP61Contradict is about two openings alone.
func TestP61Contradict(t *testing.T) {
	first := during(5, 9, opening(3, 1, 10, 20, papers(5, 7), papers(9)))
	for _, c := range []struct {
		name  string
		other api.Opening
		want  bool
	}{
		{"a paper that is out", opening(2, 2, 10, 20, nil, papers(7)), true},
		{"a paper that is in", opening(2, 2, 10, 20, papers(1, 9), nil), true},
		{"both", opening(4, 2, 10, 20, papers(9), papers(5)), true},
		{"the last day", opening(2, 2, 20, 30, papers(9), nil), true},
		{"the first day", opening(2, 2, 0, 10, papers(9), nil), true},
		{"one day within", opening(2, 2, 15, 15, papers(9), nil), true},
		{"days around", opening(2, 2, 0, 99, papers(9), nil), true},
		{"days behind", opening(2, 2, 21, 30, papers(9), nil), false},
		{"days ahead", opening(2, 2, 0, 9, papers(9), nil), false},
		{"no papers", opening(2, 2, 10, 20, nil, nil), false},
		{"the same", opening(2, 2, 10, 20, papers(5, 7), papers(9)), false},
		{"other papers", opening(2, 2, 10, 20, papers(8), papers(6)), false},
		{"another time, later", during(9, 0, opening(2, 2, 10, 20, papers(9), nil)), false},
		{"another time, earlier", during(0, 5, opening(2, 2, 10, 20, papers(9), nil)), false},
		{"the same register", opening(2, 1, 21, 30, papers(9), nil), false},
	} {
		l := []api.Opening{first, c.other}
		if c.other.Source < first.Source {
			slices.Reverse(l)
		}
		fewest := map[bool]int{true: 1}[c.want]
		pairs := []api.Pair{{First: 3, Second: c.other.Source}}[:fewest]
		expect(t, "Clashes with "+c.name, results(chest.Clashes(l, 7)), pairs, api.OK)
		expect(t, "Pairs with "+c.name, results(chest.Pairs(l, 7)), pairs, api.OK)
		expect(t, "Fewest with "+c.name, results(chest.Fewest(l, 7)), fewest, api.OK)
		expect(t, "CheckFalse with "+c.name, results(chest.CheckFalse(l, 7, nil)), verdict(!c.want, api.ErrCover))
		expect(t, "True with "+c.name, results(chest.True(l, 3, 7)), map[bool]int{true: api.Maybe, false: api.Yes}[c.want], api.OK)
	}
}

func TestP61CheckFalse(t *testing.T) {
	l := example()
	for _, c := range []struct {
		known int
		by    []int
		want  api.Errno
	}{
		{7, nil, api.OK}, {7, []int{1}, api.OK}, {7, []int{1, 2, 4}, api.OK}, {7, []int{3}, api.ErrCover}, {8, nil, api.ErrCover}, {8, []int{3}, api.OK}, {8, []int{1, 2, 3, 4}, api.OK}, {8, []int{2, 3}, api.OK},
		{8, []int{3, 5}, api.ErrCover}, {8, []int{3, 2}, api.ErrCover}, {8, []int{3, 3}, api.ErrCover}, {8, []int{0, 3}, api.ErrCover}, {8, []int{3, 6}, api.ErrCover}, {8, []int{-3, 3}, api.ErrCover}, {8, []int{1, 4}, api.ErrCover},
		{20, []int{3}, api.ErrCover}, {20, []int{3, 5}, api.OK}, {20, []int{1, 2}, api.OK}, {20, []int{1, 3}, api.OK}, {20, []int{2, 3}, api.ErrCover}, {20, []int{2, 5}, api.ErrCover},
	} {
		expect(t, fmt.Sprint("CheckFalse ", c), results(chest.CheckFalse(l, c.known, c.by)), c.want)
	}
}

func TestP61CheckPairs(t *testing.T) {
	l := example()
	for _, c := range []struct {
		known int
		pairs []api.Pair
		want  api.Errno
	}{
		{7, nil, api.OK}, {7, []api.Pair{{First: 1, Second: 3}}, api.ErrPairs}, {8, nil, api.OK}, {8, []api.Pair{{First: 1, Second: 3}}, api.OK}, {8, []api.Pair{{First: 2, Second: 3}}, api.OK},
		{8, []api.Pair{{First: 1, Second: 3}, {First: 2, Second: 3}}, api.ErrPairs}, {8, []api.Pair{{First: 3, Second: 1}}, api.ErrPairs}, {8, []api.Pair{{First: 1, Second: 4}}, api.ErrPairs}, {8, []api.Pair{{}}, api.ErrPairs}, {8, []api.Pair{{First: 1, Second: 5}}, api.ErrPairs},
		{8, []api.Pair{{First: 1, Second: 3}, {First: 1, Second: 3}}, api.ErrPairs}, {8, []api.Pair{{First: 1, Second: 1}}, api.ErrPairs}, {8, []api.Pair{{First: 1, Second: 2}}, api.ErrPairs}, {8, []api.Pair{{First: 6, Second: 3}}, api.ErrPairs},
		{20, nil, api.OK}, {20, []api.Pair{{First: 1, Second: 5}}, api.OK}, {20, []api.Pair{{First: 1, Second: 5}, {First: 2, Second: 3}}, api.OK}, {20, []api.Pair{{First: 2, Second: 3}, {First: 1, Second: 5}}, api.ErrPairs},
		{20, []api.Pair{{First: 1, Second: 3}, {First: 1, Second: 5}}, api.ErrPairs}, {20, []api.Pair{{First: 1, Second: 3}, {First: 2, Second: 3}}, api.ErrPairs}, {20, []api.Pair{{First: 1, Second: 5}, {First: 2, Second: 4}}, api.ErrPairs},
	} {
		expect(t, fmt.Sprint("CheckPairs ", c), results(chest.CheckPairs(l, c.known, c.pairs)), c.want)
	}
}

// TestP61Days asks of the days ahead of, on and behind those of an opening.
func TestP61Days(t *testing.T) {
	l := []api.Opening{opening(4, 1, 10, 12, papers(5), papers(6)), opening(6, 2, 12, 14, papers(7), papers(8))}
	for day, c := range map[int]struct {
		five, six, seven, eight, sealed int
		content                         []int
	}{
		0:  {api.Maybe, api.Maybe, api.Maybe, api.Maybe, api.No, nil},
		9:  {api.Maybe, api.Maybe, api.Maybe, api.Maybe, api.No, nil},
		10: {api.Yes, api.No, api.Maybe, api.Maybe, api.Yes, papers(5)},
		11: {api.Yes, api.No, api.Maybe, api.Maybe, api.Yes, papers(5)},
		12: {api.Yes, api.No, api.Yes, api.No, api.Yes, papers(5, 7)},
		13: {api.Maybe, api.Maybe, api.Yes, api.No, api.Yes, papers(7)},
		14: {api.Maybe, api.Maybe, api.Yes, api.No, api.Yes, papers(7)},
		15: {api.Maybe, api.Maybe, api.Maybe, api.Maybe, api.No, nil},
	} {
		for i, answer := range []int{c.five, c.six, c.seven, c.eight} {
			expect(t, fmt.Sprint("Inside ", 5+i, day), results(chest.Inside(l, 5+i, day, 0)), answer, api.OK)
		}
		expect(t, fmt.Sprint("Inside of a paper that none names ", day), results(chest.Inside(l, 999, day, 0)), api.Maybe, api.OK)
		expect(t, fmt.Sprint("Sealed ", day), results(chest.Sealed(l, day, 0)), c.sealed, api.OK)
		expect(t, fmt.Sprint("Content ", day), results(chest.Content(l, day, 0)), c.content, api.OK)
	}
}

// TestP61Either has two openings of which one must be false, but which agree on a paper.
func TestP61Either(t *testing.T) {
	l := []api.Opening{opening(1, 1, 10, 20, papers(5, 6), papers(7)), opening(2, 2, 10, 20, papers(5), papers(6, 7))}
	expect(t, "Inside, as both say", results(chest.Inside(l, 5, 15, 0)), api.Yes, api.OK)
	expect(t, "Inside, as one of them says", results(chest.Inside(l, 6, 15, 0)), api.Maybe, api.OK)
	expect(t, "Inside, as none of them says", results(chest.Inside(l, 7, 15, 0)), api.No, api.OK)
	expect(t, "Sealed by one of them", results(chest.Sealed(l, 15, 0)), api.Yes, api.OK)
	expect(t, "Content", results(chest.Content(l, 15, 0)), papers(5), api.OK)
	expect(t, "True", results(chest.True(l, 1, 0)), api.Maybe, api.OK)
	// Two more, each of which contradicts one of these: now both of these may be false.
	l = []api.Opening{opening(1, 1, 8, 20, papers(5), papers(6)), opening(2, 2, 10, 25, papers(5, 6), nil), opening(3, 2, 5, 9, nil, papers(5)), opening(4, 1, 21, 30, nil, papers(5))}
	expect(t, "Clashes", results(chest.Clashes(l, 0)), []api.Pair{{First: 1, Second: 2}, {First: 1, Second: 3}, {First: 4, Second: 2}}, api.OK)
	expect(t, "Fewest", results(chest.Fewest(l, 0)), 2, api.OK)
	expect(t, "Inside, as two say that may both be false", results(chest.Inside(l, 5, 15, 0)), api.Maybe, api.OK)
	expect(t, "Sealed by two that may both be false", results(chest.Sealed(l, 15, 0)), api.Maybe, api.OK)
	expect(t, "Sealed by one that may be false", results(chest.Sealed(l, 22, 0)), api.Yes, api.OK)
}

// TestP61Nothing asks where no opening counts.
func TestP61Nothing(t *testing.T) {
	for _, l := range [][]api.Opening{nil, {during(5, 0, opening(1, 1, 0, 9, papers(5), papers(6)))}, {during(0, 4, opening(1, 1, 0, 9, papers(5), papers(6)))}} {
		expect(t, "Clashes", results(chest.Clashes(l, 4)), none, api.OK)
		expect(t, "Fewest", results(chest.Fewest(l, 4)), 0, api.OK)
		expect(t, "False", results(chest.False(l, 4)), none, api.OK)
		expect(t, "CheckFalse", results(chest.CheckFalse(l, 4, nil)), api.OK)
		expect(t, "Pairs", results(chest.Pairs(l, 4)), none, api.OK)
		expect(t, "CheckPairs", results(chest.CheckPairs(l, 4, nil)), api.OK)
		expect(t, "True", results(chest.True(l, 1, 4)), 0, api.ErrSource)
		expect(t, "Inside", results(chest.Inside(l, 5, 4, 4)), api.Maybe, api.OK)
		expect(t, "Sealed", results(chest.Sealed(l, 4, 4)), api.No, api.OK)
		expect(t, "Unlawful", results(chest.Unlawful(l, 4)), none, api.OK)
		expect(t, "Papers", results(chest.Papers(l, 4)), none, api.OK)
		expect(t, "Content", results(chest.Content(l, 4, 4)), none, api.OK)
		expect(t, "Moved", results(chest.Moved(l, 1, 4)), none, verdict(len(l) > 0, api.ErrNone))
	}
}

// TestP61Full has sixty openings, each of which contradicts the next one.
func TestP61Full(t *testing.T) {
	l := full()
	expect(t, "Fewest", results(chest.Fewest(l, fullKnown)), 30, api.OK)
	expect(t, "Fewest of what does not count yet", results(chest.Fewest(l, fullKnown-1)), 0, api.OK)
	pairs, e := chest.Pairs(l, fullKnown)
	for i, pair := range pairs {
		expect(t, "a pair", results(pair), api.Pair{First: 99940 + 2*i, Second: 99941 + 2*i})
	}
	expect(t, "Pairs", results(len(pairs), e), 30, api.OK)
	for _, o := range l {
		expect(t, "True", results(chest.True(l, o.Source, fullKnown)), api.Maybe, api.OK)
		expect(t, "Sealed", results(chest.Sealed(l, o.Through, fullKnown)), map[int]int{1: api.Yes, 2: api.Maybe}[o.Register], api.OK)
	}
	// Without one of its ends it is sure which of them are false.
	less := l[1:]
	var by []int
	for i, o := range less {
		expect(t, fmt.Sprint("True ", o.Source), results(chest.True(less, o.Source, fullKnown)), []int{api.Yes, api.No}[i%2], api.OK)
		if i%2 == 1 {
			by = append(by, o.Source)
		}
	}
	expect(t, "False", results(chest.False(less, fullKnown)), by, api.OK)
	expect(t, "Moved", results(chest.Moved(l, 99940, fullKnown)), sources(less), api.OK)
	expect(t, "Papers", results(chest.Papers(l, fullKnown)), upTo(999)[983:], api.OK)
	expect(t, "Content", results(chest.Content(less, 99942, fullKnown)), l[1].In, api.OK)
}
