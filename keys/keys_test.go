package keys_test

import (
	"fmt"
	"math/rand/v2"
	"slices"
	"testing"

	"parvise/api"
	"parvise/keys"
)

func TestP11Deed(t *testing.T) {
	ok := given(3, 99, 0, api.MaxDay)
	for _, c := range []struct {
		name   string
		valid  bool
		change func(d *api.Deed)
	}{
		{"as it is", true, func(d *api.Deed) {}},
		{"last item", true, func(d *api.Deed) { d.At = api.Item{Parish: 5, No: 9999} }},
		{"parish 6", false, func(d *api.Deed) { d.At.Parish = 6 }},
		{"parish -1", false, func(d *api.Deed) { d.At.Parish = -1 }},
		{"no 10000", false, func(d *api.Deed) { d.At.No = 10000 }},
		{"no -1", false, func(d *api.Deed) { d.At.No = -1 }},
		{"kind 0", false, func(d *api.Deed) { d.Kind = 0 }},
		{"kind 7", false, func(d *api.Deed) { d.Kind = 7 }},
		{"lock 0", false, func(d *api.Deed) { d.Lock = 0 }},
		{"lock 4", false, func(d *api.Deed) { d.Lock = 4 }},
		{"person 0", false, func(d *api.Deed) { d.Person = 0 }},
		{"person 100", false, func(d *api.Deed) { d.Person = 100 }},
		{"lent", true, func(d *api.Deed) { d.Kind = api.DeLent }},
		{"lent to nobody", false, func(d *api.Deed) { d.Kind, d.Person = api.DeLent, 0 }},
		{"lent of no lock", false, func(d *api.Deed) { d.Kind, d.Lock = api.DeLent, 0 }},
		{"sworn", true, func(d *api.Deed) { d.Kind, d.Lock = api.DeSworn, 0 }},
		{"sworn with a lock", false, func(d *api.Deed) { d.Kind = api.DeSworn }},
		{"sworn nobody", false, func(d *api.Deed) { d.Kind, d.Lock, d.Person = api.DeSworn, 0, 0 }},
		{"sworn person 100", false, func(d *api.Deed) { d.Kind, d.Lock, d.Person = api.DeSworn, 0, 100 }},
		{"left", true, func(d *api.Deed) { d.Kind, d.Lock = api.DeLeft, 0 }},
		{"left with a lock", false, func(d *api.Deed) { d.Kind = api.DeLeft }},
		{"back", true, func(d *api.Deed) { d.Kind, d.Person = api.DeBack, 0 }},
		{"back with a person", false, func(d *api.Deed) { d.Kind = api.DeBack }},
		{"back of no lock", false, func(d *api.Deed) { d.Kind, d.Lock, d.Person = api.DeBack, 0, 0 }},
		{"lost", true, func(d *api.Deed) { d.Kind, d.Person = api.DeLost, 0 }},
		{"lost with a person", false, func(d *api.Deed) { d.Kind = api.DeLost }},
		{"lost of lock 4", false, func(d *api.Deed) { d.Kind, d.Lock, d.Person = api.DeLost, 4, 0 }},
		{"one day", true, func(d *api.Deed) { d.Day = days(7, 7) }},
		{"days that fall", false, func(d *api.Deed) { d.Day = days(7, 6) }},
		{"day -1", false, func(d *api.Deed) { d.Day = days(-1, 6) }},
		{"day 100001", false, func(d *api.Deed) { d.Day = days(0, api.MaxDay+1) }},
		{"known on the last day", true, func(d *api.Deed) { d.Known = api.MaxDay }},
		{"known too late", false, func(d *api.Deed) { d.Known = api.MaxDay + 1 }},
		{"known -1", false, func(d *api.Deed) { d.Known = -1 }},
		{"until one day later", true, func(d *api.Deed) { d.Known, d.Until = 4, 5 }},
		{"until the last day", true, func(d *api.Deed) { d.Until = api.MaxDay }},
		{"until the day itself", false, func(d *api.Deed) { d.Known, d.Until = 5, 5 }},
		{"until too late", false, func(d *api.Deed) { d.Until = api.MaxDay + 1 }},
		{"until -1", false, func(d *api.Deed) { d.Until = -1 }},
	} {
		d := ok
		c.change(&d)
		one, all := api.ErrDeed, api.ErrDeeds
		if c.valid {
			one, all = api.OK, api.OK
		}
		expect(t, "CheckDeed: "+c.name, results(keys.CheckDeed(d)), one)
		expect(t, "Check: "+c.name, results(keys.Check([]api.Deed{d})), all)
		_, e := keys.Add(nil, d)
		expect(t, "Add: "+c.name, results(e), one)
	}
}

// many returns so many deeds.
func many(n int) []api.Deed {
	l := make([]api.Deed, n)
	for i := range l {
		l[i] = sworn(1, 0, api.MaxDay)
	}
	return numbered(l...)
}

func TestP11Check(t *testing.T) {
	expect(t, "Check of none", results(keys.Check(nil)), api.OK)
	expect(t, "Check of 60", results(keys.Check(many(60))), api.OK)
	expect(t, "Check of 61", results(keys.Check(many(61))), api.ErrDeeds)
	for _, at := range [][2]api.Item{{item(1), item(1)}, {item(1), item(0)}, {{Parish: 1, No: 0}, {Parish: 0, No: 9}}} {
		l := many(2)
		l[0].At, l[1].At = at[0], at[1]
		expect(t, fmt.Sprint("Check of ", at), results(keys.Check(l)), api.ErrDeeds)
	}
	l := many(2)
	l[0].At, l[1].At = api.Item{Parish: 0, No: 9}, api.Item{Parish: 1, No: 0}
	expect(t, "Check of two parishes", results(keys.Check(l)), api.OK)
}

func TestP11Add(t *testing.T) {
	l := example()
	other := l[3]
	other.Person = 12
	for i, d := range l {
		without := slices.Concat(l[:i], l[i+1:])
		expect(t, "Add of the missing one", results(keys.Add(without, d)), l, api.OK)
		expect(t, "Add of one that is there", results(keys.Add(l, d)), l, api.OK)
	}
	expect(t, "Add of another one", results(keys.Add(l, other)), nil, api.ErrSame)
	until := l[3]
	until.Until = 7
	expect(t, "Add of one with another Until", results(keys.Add(l, until)), nil, api.ErrSame)
	expect(t, "Add to none", results(keys.Add(nil, l[0])), l[:1], api.OK)
	next := sworn(1, 0, 0)
	next.At.No = 60
	expect(t, "Add of the 61st", results(keys.Add(many(60), next)), nil, api.ErrLong)
	expect(t, "Add of one of 60", results(keys.Add(many(60), many(60)[59])), many(60), api.OK)
	other = many(60)[59]
	other.Person = 2
	expect(t, "Add of another one to 60", results(keys.Add(many(60), other)), nil, api.ErrSame)
	expect(t, "Add of no deed to 60", results(keys.Add(many(60), api.Deed{})), nil, api.ErrDeed)
	expect(t, "Add of no deed to wrong ones", results(keys.Add(wrong(), api.Deed{})), nil, api.ErrDeeds)
}

func TestP11Join(t *testing.T) {
	l, other := example(), example()[0]
	other.Person = 9
	expect(t, "Join of parts", results(keys.Join(l[4:], l[:6])), l, api.OK)
	expect(t, "Join of none", results(keys.Join(nil, nil)), nil, api.OK)
	expect(t, "Join with one twice", results(keys.Join(nil, []api.Deed{l[2], l[0], l[2]})), []api.Deed{l[0], l[2]}, api.OK)
	expect(t, "Join with two of one item", results(keys.Join(nil, []api.Deed{l[0], l[1], other})), nil, api.ErrSame)
	expect(t, "Join: same ahead of no deed", results(keys.Join(l, []api.Deed{other, {}})), nil, api.ErrSame)
	expect(t, "Join: no deed ahead of same", results(keys.Join(l, []api.Deed{{}, other})), nil, api.ErrDeed)
	expect(t, "Join to wrong ones", results(keys.Join(wrong(), []api.Deed{{}})), nil, api.ErrDeeds)
	expect(t, "Join of 60, many times", results(keys.Join(many(60), slices.Concat(many(60), many(60)))), many(60), api.OK)
	expect(t, "Join of 61", results(keys.Join(many(60), many(61))), nil, api.ErrLong)
	expect(t, "Join: no deed behind too many", results(keys.Join(many(60), append(many(61), api.Deed{}))), nil, api.ErrDeed)
	expect(t, "Join: same behind too many", results(keys.Join(many(60), append(many(61), other))), nil, api.ErrSame)
}

func TestP11Dates(t *testing.T) {
	expect(t, "Dates", results(keys.Dates(example())), []int{0, 75}, api.OK)
	l := many(4)
	l[0].Known, l[1].Known, l[2].Known, l[3].Known = 9, 3, 9, 1
	l[0].Until, l[1].Until, l[3].Until = 12, 9, 4
	expect(t, "Dates", results(keys.Dates(l)), []int{1, 3, 4, 9, 12}, api.OK)
	expect(t, "Dates of none", results(keys.Dates(nil)), nil, api.OK)
	expect(t, "Dates of wrong ones", results(keys.Dates(wrong())), nil, api.ErrDeeds)
}

func TestP11Examples(t *testing.T) {
	d := example()
	for _, c := range []struct {
		lock, day      int
		holders, hands []int
	}{
		{3, 11, []int{0}, []int{0}}, {3, 12, []int{0, 13}, []int{0, 13}}, {3, 15, []int{0, 13}, []int{0, 13}}, {3, 19, []int{0, 13}, []int{0, 13}}, {3, 20, []int{13}, []int{13}},
		{1, 29, []int{11}, []int{11}}, {1, 34, []int{11}, []int{11, 14}}, {1, 38, []int{11}, []int{11, 14}}, {1, 49, []int{11}, []int{11, 14}}, {1, 50, []int{11}, []int{11}},
	} {
		expect(t, fmt.Sprint("Holders ", c), results(keys.Holders(d, c.lock, c.day, 9)), c.holders, api.OK)
		expect(t, fmt.Sprint("Hands ", c), results(keys.Hands(d, c.lock, c.day, 9)), c.hands, api.OK)
	}
	expect(t, "When 6", results(keys.When(d, item(6), 9)), days(30, 40), api.OK)
	expect(t, "When 7", results(keys.When(d, item(7), 9)), days(35, 50), api.OK)
	for _, c := range []struct {
		persons          []int
		day, known, want int
	}{
		{[]int{11, 12, 13}, 25, 9, api.Yes}, {[]int{11, 12, 13}, 15, 9, api.Maybe}, {[]int{11, 12, 13}, 36, 9, api.Maybe},
		{[]int{12, 13, 14}, 25, 9, api.No}, {[]int{12, 13, 14}, 36, 9, api.Maybe}, {[]int{11, 12, 13, 14}, 36, 9, api.Yes},
		{[]int{11, 12, 13}, 65, 75, api.Maybe}, {[]int{11, 12, 13}, 70, 75, api.No}, {[]int{11, 12, 13}, 70, 74, api.Yes}, {nil, 25, 9, api.No},
	} {
		expect(t, fmt.Sprint("Lawful ", c), results(keys.Lawful(d, c.persons, c.day, c.known)), c.want, api.OK)
	}
	expect(t, "Openers on 36", results(keys.Openers(d, 36, 9)), []int{11, 12, 13, 14}, api.OK)
	expect(t, "Openers on 25", results(keys.Openers(d, 25, 9)), []int{11, 12, 13}, api.OK)
	expect(t, "Openers on 15", results(keys.Openers(d, 15, 9)), nil, api.ErrShut)
	for _, c := range [][4]int{{12, 65, 9, api.Yes}, {12, 65, 75, api.Maybe}, {12, 70, 75, api.No}, {14, 70, 75, api.No}, {12, 9, 9, api.No}, {12, 10, 9, api.Yes}} {
		expect(t, fmt.Sprint("InOffice ", c), results(keys.InOffice(d, c[0], c[1], c[2])), c[3], api.OK)
	}
	expect(t, "Wardens", results(keys.Wardens(d, 65, 75)), []int{11, 13}, api.OK)
	expect(t, "Consistent", results(keys.Consistent(uneven(), 9)), false, api.OK)
	expect(t, "Conflict", results(keys.Conflict(uneven(), 9)), []api.Item{item(6), item(9)}, api.OK)
	expect(t, "Changed", results(keys.Changed(d, 65, 9, 75)), nil, api.OK)
	expect(t, "Moved 6", results(keys.Moved(d, item(6), 36, 9)), []int{1}, api.OK)
	expect(t, "Moved 8", results(keys.Moved(d, item(8), 65, 75)), nil, api.OK)
}

func TestP11Conflicts(t *testing.T) {
	l := numbered(given(1, 1, 9, 9), given(2, 1, 9, 9), sworn(1, 9, 9), given(2, 2, 8, 8), given(1, 2, 9, 9), left(1, 8, 8), given(1, 3, 8, 8), lost(1, 7, 7))
	expect(t, "Conflict: the first", results(keys.Conflict(l, 0)), []api.Item{item(0), item(6)}, api.OK)
	for _, c := range []struct {
		by []api.Item
		e  api.Errno
	}{
		{[]api.Item{item(0), item(6)}, api.OK}, {[]api.Item{item(0), item(7)}, api.OK}, {[]api.Item{item(1), item(3)}, api.OK},
		{[]api.Item{item(2), item(5)}, api.OK}, {[]api.Item{item(6), item(7)}, api.OK}, {[]api.Item{item(6), item(0)}, api.ErrEven},
		{[]api.Item{item(0), item(4)}, api.ErrEven}, {[]api.Item{item(0), item(3)}, api.ErrEven}, {[]api.Item{item(0), item(5)}, api.ErrEven},
		{[]api.Item{item(0), item(0)}, api.ErrEven}, {[]api.Item{item(0), item(8)}, api.ErrEven}, {[]api.Item{item(8), item(7)}, api.ErrEven},
		{[]api.Item{item(0)}, api.ErrEven}, {[]api.Item{item(0), item(6), item(7)}, api.ErrEven}, {nil, api.ErrEven},
	} {
		expect(t, fmt.Sprint("CheckConflict ", c.by), results(keys.CheckConflict(l, 0, c.by)), c.e)
	}
	expect(t, "Conflict of none", results(keys.Conflict(example(), 9)), nil, api.ErrEven)
	later := uneven()
	later[9].Known = 10
	expect(t, "Consistent before it is known", results(keys.Consistent(later, 9)), true, api.OK)
	expect(t, "Consistent when it is known", results(keys.Consistent(later, 10)), false, api.OK)
	expect(t, "CheckConflict before it is known", results(keys.CheckConflict(later, 9, []api.Item{item(6), item(9)})), api.ErrEven)
	later[9].Known, later[9].Until = 0, 9
	expect(t, "Consistent when it ends", results(keys.Consistent(later, 9)), true, api.OK)
	expect(t, "Consistent on the day before", results(keys.Consistent(later, 8)), false, api.OK)
}

func TestP11CheckTrue(t *testing.T) {
	l := numbered(given(1, 1, 2, 6), sworn(1, 0, 3), lost(1, 4, 9), left(1, 1, 1), back(2, 0, 0))
	l[4].Known = 5
	for _, c := range []struct {
		truth []int
		known int
		e     api.Errno
	}{
		{[]int{2, 0, 4, 1}, 0, api.OK}, {[]int{6, 1, 6, 1}, 0, api.OK}, {[]int{6, 0, 9, 1, 0}, 5, api.OK},
		{[]int{6, 0, 5, 1}, 0, api.ErrTrue}, {[]int{6, 2, 6, 1}, 0, api.ErrTrue}, {[]int{1, 0, 4, 1}, 0, api.ErrTrue},
		{[]int{2, 0, 10, 1}, 0, api.ErrTrue}, {[]int{2, 0, 4}, 0, api.ErrTrue}, {[]int{2, 0, 4, 1, 0}, 0, api.ErrTrue}, {nil, 0, api.ErrTrue},
	} {
		expect(t, fmt.Sprint("CheckTrue ", c.truth), results(keys.CheckTrue(l, c.known, c.truth)), c.e)
		_, e := keys.True(l, nil, c.truth, 3, c.known)
		expect(t, fmt.Sprint("True ", c.truth), results(e), c.e)
	}
	expect(t, "CheckTrue of none", results(keys.CheckTrue(nil, 0, nil)), api.OK)
	expect(t, "CheckTrue of deeds that contradict each other", results(keys.CheckTrue(uneven(), 9, []int{10, 10, 10, 12, 12, 12, 30, 35, 29})), api.ErrTrue)
}

func TestP11Openings(t *testing.T) {
	lawful := []int{11, 12, 13}
	for _, c := range []struct {
		name   string
		want   int
		change func(l []api.Deed)
	}{
		{"as it is", api.Yes, func(l []api.Deed) {}},
		{"two keys of one warden", api.No, func(l []api.Deed) { l[5].Person = 12 }},
		{"a holder who is not sworn", api.No, func(l []api.Deed) { l[2].Person = 14 }},
		{"a holder who is sworn later", api.Maybe, func(l []api.Deed) { l[2].Day = days(20, 30) }},
		{"a holder who is sworn too late", api.No, func(l []api.Deed) { l[2].Day = days(26, 30) }},
		{"a key that was not given", api.No, func(l []api.Deed) { l[5] = lost(3, 20, 20) }},
		{"all keys in one hand", api.Yes, func(l []api.Deed) { l[6].Day, l[7] = days(20, 20), lent(1, 12, 25, 25) }},
		{"a key with another deputy", api.No, func(l []api.Deed) { l[6].Day = days(20, 25) }},
		{"a key that is lost", api.No, func(l []api.Deed) { l[6] = lost(1, 25, 25) }},
		{"a key that may be lost", api.Maybe, func(l []api.Deed) { l[6] = lost(1, 25, 26) }},
	} {
		l := example()
		c.change(l)
		l = numbered(l...)
		expect(t, "Lawful: "+c.name, results(keys.Lawful(l, lawful, 25, 9)), c.want, api.OK)
	}
	expect(t, "Openers of none", results(keys.Openers(nil, 0, 0)), nil, api.ErrShut)
	expect(t, "Show of none", results(keys.Show(nil, nil, 0, 0, false)), nil, api.OK)
	expect(t, "Show of none", results(keys.Show(nil, nil, 0, 0, true)), nil, api.ErrNone)
	expect(t, "True of none", results(keys.True(nil, nil, nil, 0, 0)), false, api.OK)
	for deputies, e := range map[int]api.Errno{9: api.OK, 10: api.ErrShut} {
		l, openers := example()[:6], []int{11, 12, 13}
		for i := range deputies {
			l, openers = append(l, lent(1, 20+i, 30, 60)), append(openers, 20+i)
		}
		if e != api.OK {
			openers = nil
		}
		expect(t, fmt.Sprint("Openers with ", deputies, " deputies"), results(keys.Openers(numbered(l...), 40, 9)), openers, e)
	}
}

func TestP11Moves(t *testing.T) {
	l := example(lost(2, 55, 55), given(3, 11, 55, 80))
	l[10].Known, l[10].Until = 7, 9
	for _, c := range []struct {
		day, known, later int
		want              []int
	}{{60, 0, 7, []int{3}}, {60, 7, 0, []int{3}}, {60, 8, 9, []int{3}}, {60, 6, 9, nil}, {54, 0, 7, nil}, {60, 9, 9, nil}} {
		expect(t, fmt.Sprint("Changed ", c), results(keys.Changed(l, c.day, c.known, c.later)), c.want, api.OK)
	}
	l[8], l[8].At.No = back(1, 20, 29), 8
	l[8].Known = 5
	expect(t, "Changed by an error", results(keys.Changed(l, 0, 4, 5)), []int{1, 2, 3}, api.OK)
	expect(t, "Changed from error to error", results(keys.Changed(l, 60, 5, 7)), nil, api.OK)
	expect(t, "Moved without an error", results(keys.Moved(l, item(8), 0, 5)), []int{1, 2, 3}, api.OK)
	expect(t, "Moved with an error still", results(keys.Moved(l, item(9), 60, 5)), nil, api.OK)
	expect(t, "Moved", results(keys.Moved(l, item(9), 60, 4)), []int{2}, api.OK)
	expect(t, "Moved of one that does not count", results(keys.Moved(l, item(10), 60, 4)), nil, api.OK)
	expect(t, "Moved of none", results(keys.Moved(l, item(99), 60, 4)), nil, api.ErrNone)
	hand := numbered(given(1, 11, 5, 5), lent(1, 12, 6, 6))
	expect(t, "Moved of a hand alone", results(keys.Moved(hand, item(1), 6, 0)), []int{1}, api.OK)
	expect(t, "Moved of both", results(keys.Moved(hand, item(0), 6, 0)), []int{1}, api.OK)
	holder := numbered(given(2, 11, 5, 5), given(2, 12, 6, 6), lent(2, 11, 7, 7))
	holder[1].Known = 3
	expect(t, "Moved of a holder alone", results(keys.Moved(holder, item(1), 7, 3)), []int{2}, api.OK)
	expect(t, "Changed of a holder alone", results(keys.Changed(holder, 7, 2, 3)), []int{2}, api.OK)
}

// TestP11Arguments: no argument is changed, and no result shares memory with one.
func TestP11Arguments(t *testing.T) {
	l, more := example()[:4], example()[2:]
	all, _ := keys.Join(l, more)
	again, _ := keys.Add(l, l[0])
	all[0].Person, again[1].Person = 99, 99
	expect(t, "Join's arguments", results(l, more), example()[:4], example()[2:])
	l = example()
	for _, q := range questions(40) {
		q.ask(l, 75)
	}
	_, _ = keys.Moved(l, item(3), 40, 75)
	persons := []int{11, 12, 13}
	_, _ = keys.Show(l, persons, 40, 75, true)
	expect(t, "the deeds", results(l, persons), example(), []int{11, 12, 13})
}

// TestP11Most tries as many deeds as there may be, with as many states as they may have.
func TestP11Most(t *testing.T) {
	var l []api.Deed
	for i := range 20 {
		for lock := 1; lock <= api.MaxLocks; lock++ {
			l = append(l, given(lock, 20*(lock-1)+i+1, 0, api.MaxDay))
		}
	}
	l = numbered(l...)
	persons, e := keys.Holders(l, 3, 50, 0)
	if len(persons) != 21 || e != api.OK {
		t.Errorf("Holders = %v, %v; expected 21", persons, e)
	}
	expect(t, "Lawful", results(keys.Lawful(l, []int{1, 21, 41}, 50, 0)), api.No, api.OK)
	expect(t, "Openers", results(keys.Openers(l, 50, 0)), nil, api.ErrShut)
	for i := range 3 {
		l[i] = sworn(20*i+2, 0, api.MaxDay)
	}
	l = numbered(l...)
	expect(t, "Lawful", results(keys.Lawful(l, []int{2, 22, 42}, 50, 0)), api.Maybe, api.OK)
	expect(t, "Lawful of others", results(keys.Lawful(l, []int{3, 23, 43}, 50, 0)), api.No, api.OK)
}

// TestP12Lawful: of every true days, what is sure is so; and of no others than Openers, and those among whom they are, it is sure.
func TestP12Lawful(t *testing.T) {
	surely := 0
	eachSome(t, 12, 600, func(r *rand.Rand, l []api.Deed) {
		day := r.IntN(lastDay + 1)
		if is, _ := keys.Consistent(l, 3); !is {
			return
		}
		openers, shut := keys.Openers(l, day, 3)
		for _, persons := range parties() {
			answer, _ := keys.Lawful(l, persons, day, 3)
			for _, w := range some(worldsOf(l, day, 3)) {
				is, e := keys.True(l, persons, w.days, day, 3)
				if e != api.OK || answer != api.Maybe && is != (answer == api.Yes) {
					t.Fatalf("Lawful(%v, %d) = %d, but by %v it is %v, %v", persons, day, answer, w.days, is, e)
				}
			}
			for _, lawful := range []bool{false, true} {
				truth, e := keys.Show(l, persons, day, 3, lawful)
				if (e == api.OK) != (answer == api.Maybe || lawful == (answer == api.Yes)) {
					t.Fatalf("Lawful(%v, %d) = %d, but Show of %v = %v, %v", persons, day, answer, lawful, truth, e)
				}
			}
			among := shut == api.OK
			for _, person := range openers {
				among = among && slices.Contains(persons, person)
			}
			if among != (answer == api.Yes) {
				t.Fatalf("Lawful(%v, %d) = %d; Openers are %v, %v", persons, day, answer, openers, shut)
			}
			if among {
				surely++
			}
		}
	})
	if surely < 100 {
		t.Errorf("only %d openings were surely lawful", surely)
	}
}

// TestP13Hands: by true days the one holder and the one hand are among those that are told.
func TestP13Hands(t *testing.T) {
	eachSome(t, 13, 1000, func(r *rand.Rand, l []api.Deed) {
		day := r.IntN(lastDay + 1)
		for _, w := range some(worldsOf(l, day, 3)) {
			for lock := 1; lock <= api.MaxLocks; lock++ {
				holders, e := keys.Holders(l, lock, day, 3)
				hands, f := keys.Hands(l, lock, day, 3)
				if e != api.OK || f != api.OK || !slices.Contains(holders, w.holder[lock]) || !slices.Contains(hands, w.hand[lock]) {
					t.Fatalf("Holders(%d, %d) = %v, %v, Hands = %v, %v; by %v they are %d and %d", lock, day, holders, e, hands, f, w.days, w.holder[lock], w.hand[lock])
				}
				for person := 1; person <= people; person++ {
					holds, _ := keys.Holds(l, lock, person, day, 3)
					has, _ := keys.Has(l, lock, person, day, 3)
					office, _ := keys.InOffice(l, person, day, 3)
					for answer, is := range map[[2]int]bool{{1, holds}: w.holder[lock] == person, {2, has}: w.hand[lock] == person, {3, office}: w.office[person]} {
						if answer[1] != api.Maybe && is != (answer[1] == api.Yes) {
							t.Fatalf("answer %v of the person %d and the lock %d; by %v it is %v", answer, person, lock, w.days, is)
						}
					}
				}
			}
		}
	})
	for lock, want := range map[int][]int{1: {11}, 2: {12}, 3: {13}} {
		expect(t, "Holders who are sure", results(keys.Holders(example(), lock, 50, 9)), want, api.OK)
		expect(t, "Hands that are sure", results(keys.Hands(example(), lock, 50, 9)), want, api.OK)
	}
	nobody := example(lost(1, 55, 55), lent(1, 14, 56, 56), back(1, 57, 57))
	expect(t, "Hands of a lost key", results(keys.Hands(nobody, 1, 60, 9)), []int{0}, api.OK)
	expect(t, "Holders of a lost key", results(keys.Holders(nobody, 1, 60, 9)), []int{0}, api.OK)
}

// TestP14Contradictions: either Consistent, or Conflict returns two that are accepted, and that do so alone.
func TestP14Contradictions(t *testing.T) {
	uneven := 0
	eachSome(t, 14, 4000, func(r *rand.Rand, l []api.Deed) {
		known := r.IntN(4)
		is, e := keys.Consistent(l, known)
		by, f := keys.Conflict(l, known)
		if e != api.OK || is != (f == api.ErrEven) || is != (len(allTrue(counts(l, known))) > 0) {
			t.Fatalf("Consistent = %v, %v; Conflict = %v, %v", is, e, by, f)
		}
		if is {
			return
		}
		uneven++
		expect(t, "CheckConflict", results(keys.CheckConflict(l, known, by)), api.OK)
		two := slices.DeleteFunc(slices.Clone(l), func(d api.Deed) bool { return !slices.Contains(by, d.At) })
		expect(t, "Consistent of the two", results(keys.Consistent(two, known)), false, api.OK)
	})
	if uneven < 100 {
		t.Errorf("only %d contradictions", uneven)
	}
}

// TestP15AsKnown: what is not known yet, or no more, changes nothing; and between two of Dates nothing changes.
func TestP15AsKnown(t *testing.T) {
	eachSome(t, 15, 120, func(r *rand.Rand, l []api.Deed) {
		day := r.IntN(lastDay + 1)
		dates, _ := keys.Dates(l)
		for known := range 6 {
			count := counts(l, known)
			last := -1
			for _, date := range dates {
				if date <= known {
					last = date
				}
			}
			for _, q := range questions(day) {
				got := q.ask(l, known)
				expect(t, q.name+" without others", q.ask(count, known), got...)
				if last >= 0 {
					expect(t, q.name+" as known on the last of Dates", q.ask(l, last), got...)
				} else {
					expect(t, q.name+" before all Dates", q.ask(nil, known), got...)
				}
			}
		}
	})
	late := example()
	expect(t, "InOffice on the day before", results(keys.InOffice(late, 12, 70, 74)), api.Yes, api.OK)
	late[8].Known, late[8].Until = 20, 30
	for known, want := range map[int]int{19: api.Yes, 20: api.No, 29: api.No, 30: api.Yes} {
		expect(t, fmt.Sprint("InOffice as known on ", known), results(keys.InOffice(late, 12, 70, known)), want, api.OK)
	}
}

// TestP16Joined: deeds in any order and in any parts are joined to the same list.
func TestP16Joined(t *testing.T) {
	eachSome(t, 16, 1000, func(r *rand.Rand, l []api.Deed) {
		mixed := slices.Clone(l)
		for i := range mixed {
			mixed[i].At = api.Item{Parish: r.IntN(api.MaxParishes), No: 100*r.IntN(3) + i}
		}
		whole, e := keys.Join(nil, mixed)
		if e != api.OK || keys.Check(whole) != api.OK || len(whole) != len(l) {
			t.Fatalf("Join of %v = %v, %v", mixed, whole, e)
		}
		r.Shuffle(len(mixed), func(i, j int) { mixed[i], mixed[j] = mixed[j], mixed[i] })
		at := r.IntN(len(mixed) + 1)
		part, _ := keys.Join(nil, mixed[:at])
		expect(t, "Join in parts", results(keys.Join(part, mixed[at:])), whole, api.OK)
		expect(t, "Join of parts, twice", results(keys.Join(whole, mixed)), whole, api.OK)
		var byOne []api.Deed
		for _, d := range mixed {
			added, e := keys.Add(byOne, d)
			expect(t, "Add", results(keys.Join(byOne, []api.Deed{d})), added, e)
			byOne = added
		}
		expect(t, "Add one after the other", results(byOne), whole)
	})
}

// TestP17Narrower: with a narrower Day there are no more Holders and Hands, and what was sure stays so.
func TestP17Narrower(t *testing.T) {
	narrower := 0
	eachSome(t, 17, 1200, func(r *rand.Rand, l []api.Deed) {
		if len(l) == 0 {
			return
		}
		near, i, day := slices.Clone(l), r.IntN(len(l)), r.IntN(lastDay+1)
		near[i].Day.Lo += r.IntN(near[i].Day.Hi - near[i].Day.Lo + 1)
		near[i].Day.Hi -= r.IntN(near[i].Day.Hi - near[i].Day.Lo + 1)
		if is, _ := keys.Consistent(near, 3); !is || near[i] == l[i] {
			return
		}
		narrower++
		for n, q := range questions(day) {
			before, after := q.ask(l, 3), questions(day)[n].ask(near, 3)
			switch q.name {
			case "Holders", "Hands":
				for _, person := range after[0].([]int) {
					if !slices.Contains(before[0].([]int), person) {
						t.Errorf("%s was %v, and is %v", q.name, before, after)
					}
				}
			case "Holds", "Has", "InOffice", "Lawful":
				if before[0] != api.Maybe {
					expect(t, q.name+" that was sure", after, before...)
				}
			}
		}
		for _, d := range counts(l, 3) {
			wide, _ := keys.When(l, d.At, 3)
			narrow, _ := keys.When(near, d.At, 3)
			if narrow.Lo < wide.Lo || narrow.Hi > wide.Hi {
				t.Errorf("When of %v was %v, and is %v", d.At, wide, narrow)
			}
		}
	})
	if narrower < 300 {
		t.Errorf("only %d were narrower", narrower)
	}
}
