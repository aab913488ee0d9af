package loan_test

import (
	"fmt"
	"math/rand/v2"
	"slices"
	"testing"

	"parvise/api"
	"parvise/loan"
)

func TestP21Examples(t *testing.T) {
	l := example()
	expect(t, "Check", results(loan.Check(l)), api.OK)
	expect(t, "Telling(30)", results(loan.Telling(l, 30)), nil, api.OK)
	expect(t, "Telling(60)", results(loan.Telling(l, 60)), []int{20, 21}, api.OK)
	expect(t, "Double(50)", results(loan.Double(l, 50)), []int{10, 11}, api.OK)
	expect(t, "Double(60)", results(loan.Double(l, 60)), nil, api.ErrAgree)
	expect(t, "Days(20, 60)", results(loan.Days(l, 20, 60)), days(20, 40), api.OK)
	expect(t, "Days(21, 60)", results(loan.Days(l, 21, 60)), days(11, 30), api.OK)
	expect(t, "Days(20, 70)", results(loan.Days(l, 20, 70)), days(26, 40), api.OK)
	expect(t, "Sound(80)", results(loan.Sound(l, 80)), false, api.OK)
	expect(t, "Clash(80)", results(loan.Clash(l, 80)), []int{30, 31}, api.OK)
	for _, c := range []struct {
		f          api.Folio
		day, known int
		want       []int
	}{
		{folio(1, 1), 24, 60, []int{0, 5}}, {folio(1, 1), 24, 70, []int{5}}, {folio(1, 2), 41, 60, []int{6}}, {folio(1, 2), 40, 60, []int{6}},
		{folio(1, 3), 10, 60, []int{5}}, {folio(1, 3), 30, 60, []int{0}}, {folio(2, 1), 30, 60, []int{0}},
	} {
		expect(t, fmt.Sprint("Where ", c), results(loan.Where(l, c.f, c.day, c.known)), c.want, api.OK)
	}
	for _, c := range [][2]int{{9, api.Yes}, {30, api.Maybe}, {41, api.No}} {
		expect(t, fmt.Sprint("Whole ", c), results(loan.Whole(l, 1, c[0], 60)), c[1], api.OK)
	}
	for _, c := range [][3]int{{10, 30, api.Maybe}, {10, 40, api.No}, {11, 41, api.Yes}, {11, 39, api.No}, {10, 9, api.No}, {10, 10, api.Yes}} {
		expect(t, fmt.Sprint("Lies ", c), results(loan.Lies(l, c[0], c[1], 60)), c[2], api.OK)
	}
	expect(t, "Has", results(loan.Has(l, 5, 19, 60)), []api.Folio{folio(1, 1), folio(1, 2)}, api.OK)
	expect(t, "May", results(loan.May(l, 5, 19, 60)), []api.Folio{folio(1, 1), folio(1, 2), folio(1, 3)}, api.OK)
	expect(t, "CheckTrue(60; 20 11)", results(loan.CheckTrue(l, 60, []int{20, 11})), api.OK)
	expect(t, "CheckTrue(60; 41 11)", results(loan.CheckTrue(l, 60, []int{41, 11})), api.ErrTrueDay)
	expect(t, "Placed", results(loan.Placed(l, []int{25, 30}, 1, 27, 60)), []int{0, 0, 5}, api.OK)
	expect(t, "Moved", results(loan.Moved(l, 20, 30, 60)), []api.Folio{folio(1, 1), folio(1, 2), folio(1, 3), folio(2, 1)}, api.OK)
}

func TestP21Check(t *testing.T) {
	for _, c := range []struct {
		name   string
		change func(l *api.Ledger)
		valid  bool
	}{
		{"as it is", func(l *api.Ledger) {}, true},
		{"papers out of order", func(l *api.Ledger) { l.Papers = []api.Paper{l.Papers[1], l.Papers[0]} }, false},
		{"a paper twice", func(l *api.Ledger) { l.Papers = append(l.Papers, l.Papers[1]) }, false},
		{"a paper that is none", func(l *api.Ledger) { l.Papers[1].Leaves = 31 }, false},
		{"receipts out of order", func(l *api.Ledger) { slices.Reverse(l.Receipts) }, false},
		{"a receipt that is none", func(l *api.Ledger) { l.Receipts[1].Borrower = 0 }, false},
		{"a receipt for a leaf too many", func(l *api.Ledger) { l.Papers[0].Leaves = 2 }, false},
		{"a receipt for no paper", func(l *api.Ledger) { l.Receipts[1].Paper = 3 }, false},
		{"returns out of order", func(l *api.Ledger) { slices.Reverse(l.Returns) }, false},
		{"a return that is none", func(l *api.Ledger) { l.Returns[0].Person = 0 }, false},
		{"a return of no receipt", func(l *api.Ledger) { l.Returns[0].Receipt = 99 }, true},
		{"a return of a sight", func(l *api.Ledger) { l.Returns[0].Receipt = 30 }, true},
		{"a return of leaves that are not there", func(l *api.Ledger) { l.Returns[0].Leaves = []int{29, 30} }, true},
		{"sights out of order", func(l *api.Ledger) { slices.Reverse(l.Sights) }, false},
		{"a sight that is none", func(l *api.Ledger) { l.Sights[0].Day = -1 }, false},
		{"a sight of a leaf too many", func(l *api.Ledger) { l.Sights[0].Leaf = 4 }, false},
		{"a sight of no paper", func(l *api.Ledger) { l.Sights[0].Paper = 3 }, false},
		{"a source of a receipt and a return", func(l *api.Ledger) { l.Receipts[1].Source = 20 }, false},
		{"a source of a receipt and a sight", func(l *api.Ledger) { l.Receipts[1].Source = 30 }, false},
		{"a source of a return and a sight", func(l *api.Ledger) { l.Returns[1].Source = 31 }, false},
		{"a source of two receipts", func(l *api.Ledger) { l.Receipts[1].Source = 10 }, false},
		{"sources among each other", func(l *api.Ledger) { l.Receipts[1].Source, l.Sights[1].Source = 35, 99999 }, true},
	} {
		l := example()
		c.change(&l)
		want := api.ErrLedger
		if c.valid {
			want = api.OK
		}
		expect(t, "Check: "+c.name, results(loan.Check(l)), want)
		expect(t, "Moved: "+c.name, results(loan.Moved(l, 10, 0, 0)), nil, want)
	}
	expect(t, "Check of an empty ledger", results(loan.Check(api.Ledger{})), api.OK)
	expect(t, "Check of a full ledger", results(loan.Check(full())), api.OK)
	for i, change := range []func(l *api.Ledger){
		func(l *api.Ledger) { l.Papers = append(l.Papers, api.Paper{Id: 13, Leaves: 1}) },
		func(l *api.Ledger) { l.Receipts = append(l.Receipts, receipt(901, 1, 1, 0, 1)) },
		func(l *api.Ledger) { l.Returns = append(l.Returns, back(901, 1, days(0, 0), 1)) },
		func(l *api.Ledger) { l.Sights = append(l.Sights, sight(901, 0, 1, 1, 0)) },
	} {
		l := full()
		change(&l)
		expect(t, fmt.Sprint("Check of a ledger too full, ", i), results(loan.Check(l)), api.ErrLedger)
	}
}

// full returns a sound ledger with as much of everything as may be: 5 loans of each paper, one behind the other.
func full() api.Ledger {
	var l api.Ledger
	all := make([]int, api.MaxFolios)
	for i := range all {
		all[i] = i + 1
	}
	for i := range api.MaxPapers {
		l.Papers = append(l.Papers, api.Paper{Id: i + 1, Leaves: api.MaxFolios})
	}
	for i := range api.MaxReceipts {
		day := i / 12 * 100
		l.Receipts = append(l.Receipts, receipt(i+1, 1+i/12, 1+i%12, day, all...))
		l.Returns = append(l.Returns, back(100+i, i+1, days(day, day+200), all...))
		l.Sights = append(l.Sights, sight(200+i, 1+i/12, 1+i%12, 1+i%30, day+i%12))
	}
	return l
}

func TestP21Full(t *testing.T) {
	l := full()
	expect(t, "Sound", results(loan.Sound(l, 0)), true, api.OK)
	expect(t, "Clash", results(loan.Clash(l, 0)), nil, api.ErrAgree)
	expect(t, "Days", results(loan.Days(l, 107, 0)), days(8, 100), api.OK)
	expect(t, "Days of the last", results(loan.Days(l, 159, 0)), days(412, 600), api.OK)
	expect(t, "Whole", results(loan.Whole(l, 12, 600, 0)), api.Yes, api.OK)
	for source := range 300 {
		if _, e := loan.Moved(l, source, 50, 0); (e == api.OK) != (source >= 1 && source <= 60 || source >= 100 && source <= 159 || source >= 200 && source <= 259) {
			t.Errorf("Moved(%d): %v", source, e)
		}
	}
	l.Sights[59].Person = 4
	expect(t, "Clash of the last", results(loan.Clash(l, 0)), []int{259}, api.OK)
}

func TestP21Seen(t *testing.T) {
	l := example()
	between := example()
	for _, c := range []struct {
		source, at int
	}{{29, 0}, {32, 2}, {1, 0}, {99999, 2}} {
		s := sight(c.source, 3, 2, 1, 9)
		between.Sights = slices.Insert(example().Sights, c.at, s)
		expect(t, fmt.Sprint("Seen ", s), results(loan.Seen(l, s)), between, api.OK)
	}
	for _, s := range []api.Sight{{}, sight(0, 0, 1, 1, 0), sight(40, 0, 3, 1, 0), sight(40, 0, 1, 4, 0), sight(10, 0, 1, 1, 0), sight(21, 0, 1, 1, 0), sight(30, 0, 1, 1, 0), l.Sights[0], sight(40, 100, 1, 1, 0)} {
		expect(t, fmt.Sprint("Seen ", s), results(loan.Seen(l, s)), api.Ledger{}, api.ErrSight)
		expect(t, fmt.Sprint("Seen in a wrong ledger ", s), results(loan.Seen(wrong(), s)), api.Ledger{}, api.ErrLedger)
	}
	expect(t, "Seen in a full ledger", results(loan.Seen(full(), sight(300, 0, 1, 1, 0))), api.Ledger{}, api.ErrLong)
	expect(t, "Seen twice in a full ledger", results(loan.Seen(full(), sight(200, 0, 1, 1, 0))), api.Ledger{}, api.ErrSight)
	last := full()
	last.Sights = last.Sights[:59]
	expect(t, "Seen as the last one", results(loan.Seen(last, full().Sights[59])), full(), api.OK)
	expect(t, "Seen in an empty ledger", results(loan.Seen(api.Ledger{}, sight(1, 0, 1, 1, 0))), api.Ledger{}, api.ErrSight)
}

// TestP21Memory changes what Seen returned: the ledger handed in stays as it was.
func TestP21Memory(t *testing.T) {
	l := example()
	more, e := loan.Seen(l, sight(40, 0, 1, 1, 0))
	expect(t, "Seen", results(e), api.OK)
	more.Papers[0].Id, more.Receipts[0].Source, more.Returns[0].Source, more.Sights[0].Source = 7, 7, 7, 7
	more.Receipts[0].Leaves[0], more.Returns[0].Leaves[0] = 7, 7
	expect(t, "the ledger handed in", results(l), example())
	// Room behind the lists is not written to.
	l.Sights = slices.Grow(l.Sights, 5)
	spare := l.Sights[:3]
	if _, e := loan.Seen(l, sight(40, 0, 1, 1, 0)); e != api.OK || spare[2] != (api.Sight{}) {
		t.Errorf("Seen wrote %v behind the sights, %v", spare[2], e)
	}
	for source := range 32 {
		loan.Moved(l, source, 30, 80)
	}
	expect(t, "the ledger handed in to Moved", results(l), example())
	list := []int{20, 11}
	placed, _ := loan.Placed(l, list, 1, 15, 60)
	placed[0] = 99
	expect(t, "the days handed in", results(list), []int{20, 11})
}

func TestP21Telling(t *testing.T) {
	for _, c := range []struct {
		name    string
		returns []api.Return
		want    []int
	}{
		{"on the receipt's day", []api.Return{back(20, 10, days(5, 10), 1)}, nil},
		{"on the day behind it", []api.Return{back(20, 10, days(5, 11), 1)}, []int{20}},
		{"of a leaf that was not lent", []api.Return{back(20, 11, days(50, 50), 1, 2)}, nil},
		{"of a receipt that is not there", []api.Return{back(20, 12, days(50, 50), 2)}, nil},
		{"of a receipt of another one's leaf", []api.Return{back(20, 11, days(50, 50), 2)}, []int{20}},
		{"twice", []api.Return{back(20, 10, days(50, 50), 2), back(21, 10, days(40, 40), 2)}, []int{20}},
		{"partly twice", []api.Return{back(20, 10, days(50, 50), 1, 2), back(21, 10, days(40, 40), 2, 3), back(22, 10, days(40, 40), 3)}, []int{20, 22}},
		{"behind one that does not tell", []api.Return{back(20, 10, days(5, 9), 2), back(21, 10, days(40, 40), 2)}, []int{21}},
		{"of two receipts", []api.Return{back(20, 10, days(20, 20), 2), back(21, 11, days(50, 50), 2)}, []int{20, 21}},
	} {
		l := example()
		l.Returns = c.returns
		expect(t, "Telling "+c.name, results(loan.Telling(l, 60)), c.want, api.OK)
	}
	l := example()
	l.Receipts[0].Until = 65
	expect(t, "Telling while the receipt counts", results(loan.Telling(l, 64)), []int{20, 21}, api.OK)
	expect(t, "Telling when it does not", results(loan.Telling(l, 65)), nil, api.OK)
	l = example()
	l.Receipts[0].Day = api.MaxDay
	l.Returns[0].Day = days(0, api.MaxDay)
	expect(t, "Telling behind the last day", results(loan.Telling(l, 60)), nil, api.OK)
	l.Receipts[0].Day--
	expect(t, "Telling on the last day", results(loan.Telling(l, 60)), []int{20}, api.OK)
}

func TestP21Doubles(t *testing.T) {
	l := api.Ledger{
		Papers: []api.Paper{{Id: 1, Leaves: 3}, {Id: 2, Leaves: 3}},
		Receipts: []api.Receipt{
			receipt(1, 1, 1, 30, 1, 2), receipt(2, 1, 2, 30, 1, 2), receipt(3, 1, 1, 30, 3), receipt(5, 2, 1, 10, 2, 3), receipt(6, 2, 2, 30, 2), receipt(7, 2, 2, 50, 1),
		},
		Returns: []api.Return{back(10, 5, days(20, 90), 2), back(11, 5, days(30, 90), 3), back(12, 2, days(50, 60), 1)},
	}
	expect(t, "Double on one day", results(loan.Double(l, 0)), []int{2, 6}, api.OK)
	expect(t, "CheckDouble 2 6", results(loan.CheckDouble(l, 0, []int{2, 6})), api.OK)
	for _, by := range [][]int{{6, 2}, {2, 2}, {1, 5}, {3, 5}, {2, 7}, {1, 2}, {1, 3}, {2}, {2, 6, 7}, nil, {2, 4}, {4, 6}, {0, 6}, {10, 11}} {
		expect(t, fmt.Sprint("CheckDouble ", by), results(loan.CheckDouble(l, 0, by)), api.ErrAgree)
	}
	l.Returns[1].Day = days(31, 90)
	expect(t, "CheckDouble: back too late", results(loan.CheckDouble(l, 0, []int{3, 5})), api.OK)
	l.Returns[0].Day = days(31, 90)
	expect(t, "Double: back too late", results(loan.Double(l, 0)), []int{1, 5}, api.OK)
	l.Returns[0].Known = 1
	expect(t, "CheckDouble: not back", results(loan.CheckDouble(l, 0, []int{1, 5})), api.OK)
	l.Receipts[0].Known = 1
	expect(t, "Double: the first one is not known", results(loan.Double(l, 0)), []int{2, 6}, api.OK)
	expect(t, "CheckDouble: the first one is not known", results(loan.CheckDouble(l, 0, []int{1, 5})), api.ErrAgree)
	expect(t, "Clash of receipts that are double", results(loan.Clash(l, 0)), nil, api.ErrDouble)
	expect(t, "Sound of receipts that are double", results(loan.Sound(l, 0)), false, api.OK)
	expect(t, "CheckTrue of receipts that are double", results(loan.CheckTrue(l, 0, []int{31, 31, 50})), api.ErrTrueDay)
}

func TestP21Clashes(t *testing.T) {
	l := example()
	l.Sights = []api.Sight{
		sight(1, 5, 1, 1, 28), sight(2, 0, 1, 2, 28), sight(3, 5, 1, 2, 22), sight(4, 0, 1, 1, 28), sight(5, 0, 1, 2, 27), sight(6, 5, 1, 3, 20), sight(7, 0, 1, 3, 15),
	}
	expect(t, "Clash", results(loan.Clash(l, 60)), []int{1, 2}, api.OK)
	for _, by := range [][]int{{1, 2}, {1, 4}, {1, 5}, {6, 7}} {
		expect(t, fmt.Sprint("CheckClash ", by), results(loan.CheckClash(l, 60, by)), api.OK)
	}
	for _, by := range [][]int{{2, 1}, {1, 1}, {1, 2, 4}, {1, 3}, {2, 3}, {1, 6}, {1}, nil, {1, 9}, {1, 2, 9}, {0, 1, 2}, {10, 11}} {
		expect(t, fmt.Sprint("CheckClash ", by), results(loan.CheckClash(l, 60, by)), api.ErrAgree)
	}
	l.Sights = append(l.Sights, sight(8, 0, 2, 1, 3), sight(9, 6, 1, 2, 39), sight(32, 5, 1, 3, 30))
	expect(t, "Clash of one", results(loan.Clash(l, 60)), []int{9}, api.OK)
	for _, by := range [][]int{{9}, {32}} {
		expect(t, fmt.Sprint("CheckClash ", by), results(loan.CheckClash(l, 60, by)), api.OK)
	}
	for _, by := range [][]int{{8}, {8, 9}, {9, 32}, {1, 9}} {
		expect(t, fmt.Sprint("CheckClash ", by), results(loan.CheckClash(l, 60, by)), api.ErrAgree)
	}
	l.Sights[8].Known = 61
	expect(t, "Clash when one is not known", results(loan.Clash(l, 60)), []int{32}, api.OK)
	expect(t, "CheckClash when one is not known", results(loan.CheckClash(l, 60, []int{9})), api.ErrAgree)
	for _, s := range []api.Sight{sight(1, 1, 2, 1, 9), sight(1, 1, 1, 1, 20), sight(1, 0, 1, 1, 10), sight(1, 0, 1, 2, 41), sight(1, 5, 1, 2, 40)} {
		l.Sights = []api.Sight{s}
		expect(t, fmt.Sprint("Clash of ", s), results(loan.Clash(l, 60)), []int{1}, api.OK)
		expect(t, fmt.Sprint("Days with ", s), results(loan.Days(l, 21, 60)), api.Range{}, api.ErrClash)
	}
}

// TestP22Placed asks by random true days with whom leaves are.
func TestP22Placed(t *testing.T) {
	eachSome(t, 23, 2000, func(r *rand.Rand, l api.Ledger) {
		o := truthOf(l, r.IntN(3))
		if len(o.trueDays) == 0 {
			return
		}
		list, day := o.trueDays[r.IntN(len(o.trueDays))], r.IntN(lastDay+2)
		at := map[api.Folio]int{}
		for _, p := range l.Papers {
			placed, e := loan.Placed(l, list, p.Id, day, o.known)
			if e != api.OK || len(placed) != p.Leaves {
				t.Fatalf("Placed(%v, %v, %d) = %v, %v", list, p, day, placed, e)
			}
			for i, person := range placed {
				f := folio(p.Id, i+1)
				at[f] = person
				where, _ := loan.Where(l, f, day, o.known)
				if !slices.Contains(where, person) {
					t.Errorf("Placed(%v, %v, %d) = %v; Where is %v", list, f, day, placed, where)
				}
				if person != 0 && !lent(o, list, f, person, day) {
					t.Errorf("Placed(%v, %v, %d) = %v: no receipt lies in the chest", list, f, day, placed)
				}
			}
		}
		for person := range people + 1 {
			has, _ := loan.Has(l, person, day, o.known)
			may, _ := loan.May(l, person, day, o.known)
			for f, truly := range at {
				if slices.Contains(has, f) && truly != person || truly == person && !slices.Contains(may, f) {
					t.Errorf("by %v %v is with %d on %d; of %d Has is %v, May is %v", list, f, truly, day, person, has, may)
				}
			}
		}
	})
}

// lent reports whether just one receipt by which a leaf is with anybody lies in the chest, and is the person's.
func lent(o *truth, list []int, f api.Folio, person, day int) bool {
	var open []int
	for _, r := range o.l.Receipts {
		answer, e := loan.Lies(o.l, r.Source, day, o.known)
		if e != api.OK || r.Paper != f.Paper || !slices.Contains(r.Leaves, f.Leaf) || r.Day > day {
			continue
		}
		if i := o.backOf(r, f.Leaf); (i < 0 || list[i] > day) && answer != api.No {
			open = append(open, r.Borrower)
		}
	}
	return slices.Equal(open, []int{person})
}

// TestP23Attained finds true days for both ends of Days, and for each of Where.
func TestP23Attained(t *testing.T) {
	eachSome(t, 24, 2000, func(r *rand.Rand, l api.Ledger) {
		known, day := r.IntN(3), r.IntN(lastDay+2)
		sound, _ := loan.Sound(l, known)
		if !sound {
			return
		}
		telling, _ := loan.Telling(l, known)
		lists := [][]int{make([]int, len(l.Returns))}
		for _, source := range telling {
			span, _ := loan.Days(l, source, known)
			for last, want := range map[bool]int{false: span.Lo, true: span.Hi} {
				list, e := loan.Attain(l, source, known, last)
				i := slices.IndexFunc(l.Returns, func(b api.Return) bool { return b.Source == source })
				if e != api.OK || list[i] != want || loan.CheckTrue(l, known, list) != api.OK {
					t.Errorf("Attain(%d, %v) = %v, %v", source, last, list, e)
				}
				lists = append(lists, list)
			}
		}
		if len(telling) > 0 {
			lists = lists[1:]
		}
		for _, f := range truthOf(l, known).folios() {
			where, _ := loan.Where(l, f, day, known)
			if len(where) != 1 && len(where) != 2 {
				t.Errorf("Where(%v, %d) = %v", f, day, where)
			}
			var found []int
			for _, list := range lists {
				placed, _ := loan.Placed(l, list, f.Paper, day, known)
				found = append(found, placed[f.Leaf-1])
			}
			slices.Sort(found)
			if !slices.Equal(slices.Compact(found), where) {
				t.Errorf("Where(%v, %d) = %v; by true days %v", f, day, where, found)
			}
		}
	})
}

func TestP24TwoAtMost(t *testing.T) {
	kinds := map[string]int{}
	eachSome(t, 25, 4000, func(r *rand.Rand, l api.Ledger) {
		known := r.IntN(3)
		sound, _ := loan.Sound(l, known)
		double, e := loan.Double(l, known)
		if e == api.OK {
			expect(t, fmt.Sprint("CheckDouble ", double), results(loan.CheckDouble(l, known, double)), api.OK)
			kinds["double"]++
		}
		clash, f := loan.Clash(l, known)
		if f == api.OK {
			expect(t, fmt.Sprint("CheckClash ", clash), results(loan.CheckClash(l, known, clash)), api.OK)
			kinds[fmt.Sprint("clash of ", len(clash))]++
		}
		if sound {
			kinds["sound"]++
		}
		if sound == (e == api.OK || f == api.OK) || f == api.OK && len(clash) != 1 && len(clash) != 2 {
			t.Errorf("Sound = %v, Double = %v, Clash = %v", sound, double, clash)
		}
	})
	if len(kinds) != 4 || kinds["clash of 2"] < 20 {
		t.Errorf("kinds of ledgers: %v", kinds)
	}
}

// TestP25Narrower adds a sight that is right by some true days.
func TestP25Narrower(t *testing.T) {
	eachSome(t, 26, 2000, func(r *rand.Rand, l api.Ledger) {
		o := truthOf(l, r.IntN(3))
		if len(o.trueDays) == 0 {
			return
		}
		list, all := o.trueDays[r.IntN(len(o.trueDays))], o.folios()
		f, day := all[r.IntN(len(all))], r.IntN(lastDay+2)
		more, e := loan.Seen(l, sight(90000, o.with(list, f, day), f.Paper, f.Leaf, day))
		expect(t, "Seen", results(e), api.OK)
		expect(t, "Sound with it", results(loan.Sound(more, o.known)), true, api.OK)
		at := r.IntN(lastDay + 2)
		for _, b := range l.Returns {
			before, e := loan.Days(l, b.Source, o.known)
			behind, f := loan.Days(more, b.Source, o.known)
			if e != f || behind.Lo < before.Lo || behind.Hi > before.Hi {
				t.Errorf("Days of %v: %v, %v; with a sight %v, %v", b, before, e, behind, f)
			}
		}
		for _, f := range all {
			before, _ := loan.Where(l, f, at, o.known)
			behind, _ := loan.Where(more, f, at, o.known)
			for _, person := range behind {
				if !slices.Contains(before, person) {
					t.Errorf("Where(%v, %d) is %v; with a sight %v", f, at, before, behind)
				}
			}
		}
		keeps := func(name string, ask func(l api.Ledger) (int, api.Errno)) {
			before, _ := ask(l)
			if behind, _ := ask(more); before != api.Maybe && behind != before {
				t.Errorf("%s on %d is %d; with a sight %d", name, at, before, behind)
			}
		}
		for _, p := range l.Papers {
			keeps("Whole", func(l api.Ledger) (int, api.Errno) { return loan.Whole(l, p.Id, at, o.known) })
		}
		for _, r := range l.Receipts {
			keeps("Lies", func(l api.Ledger) (int, api.Errno) { return loan.Lies(l, r.Source, at, o.known) })
		}
	})
}

// TestP26AsKnown leaves out, from random ledgers, what does not count on a day, and what does not tell.
func TestP26AsKnown(t *testing.T) {
	eachSome(t, 27, 500, func(r *rand.Rand, l api.Ledger) {
		known := r.IntN(4)
		out := func(source, from, until int) bool { return from > known || until != 0 && until <= known }
		less := api.Ledger{Papers: l.Papers}
		o := truthOf(l, known)
		for _, r := range l.Receipts {
			if !out(r.Source, r.Known, r.Until) {
				less.Receipts = append(less.Receipts, r)
			}
		}
		for i, b := range l.Returns {
			if o.tells[i] {
				less.Returns = append(less.Returns, b)
			}
		}
		for _, s := range l.Sights {
			if !out(s.Source, s.Known, s.Until) {
				less.Sights = append(less.Sights, s)
			}
		}
		for _, q := range questions(r.IntN(lastDay + 2)) {
			expect(t, q.name, q.ask(less, known), q.ask(l, known)...)
		}
	})
}

// TestP27Back asks behind the last day of all.
func TestP27Back(t *testing.T) {
	wholes := 0
	eachSome(t, 28, 2000, func(r *rand.Rand, l api.Ledger) {
		o := truthOf(l, r.IntN(3))
		if len(o.trueDays) == 0 {
			return
		}
		for _, p := range l.Papers {
			want := api.Yes
			for _, r := range l.Receipts {
				for _, leaf := range r.Leaves {
					if r.Paper == p.Id && o.counts(r.Known, r.Until) && o.backOf(r, leaf) < 0 {
						want = api.No
					}
				}
			}
			if want == api.Yes {
				wholes++
			}
			expect(t, fmt.Sprint("Whole ", p), results(loan.Whole(l, p.Id, lastDay+1, o.known)), want, api.OK)
		}
	})
	if wholes < 100 {
		t.Errorf("only %d papers were whole", wholes)
	}
}

// TestP28Moved is about what does not count; what Moved returns otherwise is held against the truth by TestP21Truth.
func TestP28Moved(t *testing.T) {
	l := example()
	for _, c := range []struct {
		source, known int
		want          []api.Folio
		e             api.Errno
	}{
		{30, 60, nil, api.OK}, {31, 70, nil, api.OK}, {21, 50, nil, api.OK}, {11, 39, nil, api.OK}, {99, 60, nil, api.ErrNone}, {0, 60, nil, api.ErrNone}, {-1, 60, nil, api.ErrNone},
		{30, 70, []api.Folio{folio(1, 1), folio(1, 2)}, api.OK}, {21, 60, []api.Folio{folio(1, 3)}, api.OK}, {21, 80, nil, api.OK},
		{10, 60, []api.Folio{folio(1, 1), folio(1, 2), folio(1, 3)}, api.OK}, {31, 80, []api.Folio{folio(1, 1), folio(1, 2), folio(1, 3), folio(2, 1)}, api.OK},
	} {
		expect(t, fmt.Sprint("Moved ", c), results(loan.Moved(l, c.source, 24, c.known)), c.want, c.e)
	}
	clashing := example()
	clashing.Sights = append(clashing.Sights, sight(32, 9, 2, 1, 1))
	expect(t, "Moved of a sight of a ledger that stays without true days", results(loan.Moved(clashing, 32, 24, 80)), nil, api.OK)
	expect(t, "Moved of one of three", results(loan.Moved(double(), 30, 24, 80)), nil, api.OK)
}

func TestP21Extremes(t *testing.T) {
	l := api.Ledger{
		Papers:   []api.Paper{{Id: 999, Leaves: 30}},
		Receipts: []api.Receipt{receipt(99999, 99, 999, 0, 30)},
		Returns:  []api.Return{back(99998, 99999, days(0, api.MaxDay), 30)},
	}
	expect(t, "Days", results(loan.Days(l, 99998, api.MaxDay)), days(1, api.MaxDay), api.OK)
	expect(t, "Where", results(loan.Where(l, folio(999, 30), api.MaxDay, 0)), []int{0}, api.OK)
	expect(t, "Where", results(loan.Where(l, folio(999, 30), api.MaxDay-1, 0)), []int{0, 99}, api.OK)
	expect(t, "Where", results(loan.Where(l, folio(999, 30), 0, 0)), []int{99}, api.OK)
	expect(t, "May", results(loan.May(l, 99, 5, 0)), []api.Folio{folio(999, 30)}, api.OK)
	l.Sights = []api.Sight{sight(1, 99, 999, 30, api.MaxDay)}
	expect(t, "Clash", results(loan.Clash(l, 0)), []int{1}, api.OK)
	l.Sights[0].Day--
	expect(t, "Days", results(loan.Days(l, 99998, 0)), days(api.MaxDay, api.MaxDay), api.OK)
}
