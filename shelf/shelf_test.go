package shelf_test

import (
	"fmt"
	"math/rand/v2"
	"reflect"
	"slices"
	"testing"

	"parvise/api"
	"parvise/shelf"
)

func TestP31Examples(t *testing.T) {
	n := example()
	expect(t, "Read(2, 5)", results(shelf.Read(n, 2, 5)), []int{5, 7}, true, api.OK)
	expect(t, "Read(2, 6)", results(shelf.Read(n, 2, 6)), []int{7}, true, api.OK)
	expect(t, "Read(3, 5)", results(shelf.Read(n, 3, 5)), none, false, api.OK)
	expect(t, "Read(4, 5)", results(shelf.Read(n, 4, 5)), []int{5, 7, 9}, false, api.OK)
	expect(t, "Where(9, 3)", results(shelf.Where(n, 9, 3)), []int{3, 4}, api.OK)
	expect(t, "Where(9, 5)", results(shelf.Where(n, 9, 5)), []int{4}, api.OK)
	expect(t, "Where(5, 5)", results(shelf.Where(n, 5, 5)), []int{1, 2}, api.OK)
	expect(t, "Where(5, 6)", results(shelf.Where(n, 5, 6)), []int{1}, api.OK)
	expect(t, "Lies(9, 4, 5)", results(shelf.Lies(n, 9, 4, 5)), api.Yes, api.OK)
	expect(t, "Lies(5, 2, 5)", results(shelf.Lies(n, 5, 2, 5)), api.Maybe, api.OK)
	expect(t, "Lies(5, 3, 5)", results(shelf.Lies(n, 5, 3, 5)), api.No, api.OK)
	expect(t, "Empty(3, 3)", results(shelf.Empty(n, 3, 3)), api.Maybe, api.OK)
	expect(t, "Empty(3, 5)", results(shelf.Empty(n, 3, 5)), api.Yes, api.OK)
	expect(t, "Empty(4, 5)", results(shelf.Empty(n, 4, 5)), api.No, api.OK)
	expect(t, "Sure(5)", results(shelf.Sure(n, 5)), []api.Spot{{Paper: 9, Hole: 4}}, api.OK)
	expect(t, "Sure(6)", results(shelf.Sure(n, 6)), []api.Spot{{Paper: 5, Hole: 1}, {Paper: 7, Hole: 2}, {Paper: 9, Hole: 4}}, api.OK)
	expect(t, "Again(5, 5)", results(shelf.Again(n, 5, 5)), []int{1}, api.OK)
	expect(t, "Again(9, 3)", results(shelf.Again(n, 9, 3)), []int{3}, api.OK)
	expect(t, "CheckAgain(5, 5, 2)", results(shelf.CheckAgain(n, 5, 5, []int{2})), api.OK)
	expect(t, "CheckAgain(5, 5, 4)", results(shelf.CheckAgain(n, 5, 5, []int{4})), api.ErrAgain)
	expect(t, "Sound(8)", results(shelf.Sound(n, 8)), false, api.OK)
	expect(t, "Clash(8)", results(shelf.Clash(n, 8)), []int{1, 2, 5}, api.OK)
	expect(t, "CheckCram of holes", results(shelf.CheckCram(n, 8, api.Cram{OfHoles: true, List: []int{2, 4}})), api.OK)
	expect(t, "CheckCram of papers", results(shelf.CheckCram(n, 8, api.Cram{List: []int{5, 9}})), api.OK)
	expect(t, "Moved(4, 6)", results(shelf.Moved(n, 4, 6)), []int{5, 7}, api.OK)
}

func TestP31With(t *testing.T) {
	n := example()
	for at, source := range map[int]int{0: 10, 2: 25, 5: 99999} {
		n := example()
		for i := range n.Glimpses {
			n.Glimpses[i].Source = 11 + 10*i
		}
		g := since(3, glimpse(source, 4, 5, 9))
		more := n
		more.Glimpses = slices.Insert(slices.Clone(n.Glimpses), at, g)
		expect(t, fmt.Sprint("With ", g), results(shelf.With(n, g)), more, api.OK)
		expect(t, fmt.Sprint("Without ", source), results(shelf.Without(more, source)), n, api.OK)
	}
	for _, g := range []api.Glimpse{{}, glimpse(0, 1), glimpse(6, 0), glimpse(6, 5), glimpse(6, 25), glimpse(6, 1, 8), glimpse(6, 1, 5, 6), glimpse(6, 1, 7, 5), since(-1, glimpse(6, 1)), glimpse(3, 1), n.Glimpses[0]} {
		expect(t, fmt.Sprint("With ", g), results(shelf.With(n, g)), api.Inventory{}, api.ErrGlimpse)
	}
	expect(t, "With in an inventory that is full", results(shelf.With(full(), glimpse(5, 1))), api.Inventory{}, api.ErrLong)
	expect(t, "With twice in one that is full", results(shelf.With(full(), glimpse(10, 1))), api.Inventory{}, api.ErrGlimpse)
	expect(t, "With of no hole in one that is full", results(shelf.With(full(), glimpse(5, 25))), api.Inventory{}, api.ErrGlimpse)
	last := full()
	last.Glimpses = last.Glimpses[:59]
	expect(t, "With of the last one", results(shelf.With(last, full().Glimpses[59])), full(), api.OK)
	expect(t, "Without of the last one", results(shelf.Without(full(), 600)), last, api.OK)
	empty := api.Inventory{Holes: 1}
	expect(t, "With of the first one", results(shelf.With(empty, glimpse(1, 1))), api.Inventory{Holes: 1, Glimpses: []api.Glimpse{glimpse(1, 1)}}, api.OK)
	expect(t, "With of a paper that is not there", results(shelf.With(empty, glimpse(1, 1, 1))), api.Inventory{}, api.ErrGlimpse)
}

// TestP31Memory changes what was returned: what was handed in stays as it was.
func TestP31Memory(t *testing.T) {
	n, g := example(), glimpse(9, 1, 5, 7)
	more, _ := shelf.With(n, g)
	less, _ := shelf.Without(n, 3)
	for _, other := range []api.Inventory{more, less} {
		other.Papers[0] = 77
		for i := range other.Glimpses {
			other.Glimpses[i].Source = 77
			for j := range other.Glimpses[i].Marks {
				other.Glimpses[i].Marks[j] = 77
			}
		}
	}
	expect(t, "the inventory handed in", results(n), example())
	expect(t, "the glimpse handed in", results(g), glimpse(9, 1, 5, 7))
	// Room behind the lists is not written to.
	n.Glimpses = slices.Grow(n.Glimpses, 5)
	spare := n.Glimpses[:6]
	shelf.With(n, g)
	expect(t, "the room behind the glimpses", results(spare[5]), api.Glimpse{})
	for _, known := range []int{6, 8} {
		for _, c := range calls() {
			for _, v := range c.ask(args{n: n, paper: 7, hole: 2, known: known, source: 2}) {
				if l, is := v.([]int); is {
					for i := range l {
						l[i] = 77
					}
				}
			}
		}
	}
	expect(t, "the inventory asked", results(n), example())
	lists := map[string][]int{"by": {1, 2, 5}, "cram": {5, 9}, "laid": {1, 2, 4}, "again": {1, 2}}
	shelf.CheckClash(n, 8, lists["by"])
	shelf.CheckCram(n, 8, api.Cram{List: lists["cram"]})
	shelf.CheckLaid(n, 6, lists["laid"])
	shelf.CheckAgain(n, 5, 5, lists["again"])
	expect(t, "the lists handed in", results(lists), map[string][]int{"by": {1, 2, 5}, "cram": {5, 9}, "laid": {1, 2, 4}, "again": {1, 2}})
}

// TestP31Edges asks of the least and the greatest inventories.
func TestP31Edges(t *testing.T) {
	empty := api.Inventory{Holes: 3, Glimpses: []api.Glimpse{glimpse(1, 2)}}
	expect(t, "Sound without papers", results(shelf.Sound(empty, 0)), true, api.OK)
	expect(t, "Lay without papers", results(shelf.Lay(empty, 0)), none, api.OK)
	expect(t, "CheckLaid without papers", results(shelf.CheckLaid(empty, 0, nil)), api.OK)
	expect(t, "CheckCram without papers", results(shelf.CheckCram(empty, 0, api.Cram{OfHoles: true, List: []int{1}})), api.ErrCram)
	for _, hole := range upTo(3) {
		expect(t, "Empty without papers", results(shelf.Empty(empty, hole, 0)), api.Yes, api.OK)
		expect(t, "Read without papers", results(shelf.Read(empty, hole, 0)), none, false, api.OK)
	}
	expect(t, "Moved without papers", results(shelf.Moved(empty, 1, 0)), none, api.OK)

	both := api.Inventory{Holes: 2, Papers: []int{1}, Glimpses: []api.Glimpse{glimpse(1, 1), glimpse(2, 1, 1), glimpse(3, 2), glimpse(4, 2)}}
	expect(t, "Read of empty and filled", results(shelf.Read(both, 1, 0)), none, true, api.OK)
	expect(t, "Clash of empty and filled", results(shelf.Clash(both, 0)), []int{1, 2}, api.OK)
	expect(t, "CheckClash of holes that are all empty", results(shelf.CheckClash(both, 0, []int{1, 3})), api.OK)
	expect(t, "CheckCram of a filled hole that none fits", results(shelf.CheckCram(both, 0, api.Cram{OfHoles: true, List: []int{1}})), api.OK)
	expect(t, "CheckCram of a paper that fits none", results(shelf.CheckCram(both, 0, api.Cram{List: []int{1}})), api.OK)
	expect(t, "Moved: still not sound", results(shelf.Moved(both, 3, 0)), none, api.OK)
	expect(t, "Moved: sound without it", results(shelf.Moved(both, 1, 0)), []int{1}, api.OK)

	one := api.Inventory{Holes: 1, Papers: []int{999}}
	expect(t, "Where of one hole", results(shelf.Where(one, 999, 0)), []int{1}, api.OK)
	expect(t, "Empty of one hole", results(shelf.Empty(one, 1, 0)), api.No, api.OK)
	expect(t, "Again of one hole", results(shelf.Again(one, 999, 0)), none, api.OK)
	one.Glimpses = []api.Glimpse{glimpse(1, 1)}
	expect(t, "Moved: sound without it", results(shelf.Moved(one, 1, 0)), []int{999}, api.OK)
	expect(t, "Cramped of one hole", results(shelf.Cramped(one, 0)), api.Cram{List: []int{999}}, api.OK)

	six := api.Inventory{Holes: 6, Papers: upTo(6)}
	expect(t, "Again of six holes", results(shelf.Again(six, 3, 0)), []int{1, 2, 3, 4, 5}, api.OK)
	six.Papers = upTo(2)
	expect(t, "Again of two papers", results(shelf.Again(six, 2, 0)), []int{1, 2, 3, 4, 5}, api.OK)
	six.Glimpses = []api.Glimpse{glimpse(1, 4, 1, 2), glimpse(2, 6, 1, 2)}
	expect(t, "Again: the first one", results(shelf.Again(six, 2, 0)), []int{4}, api.OK)

	n := full()
	expect(t, "Sound", results(shelf.Sound(n, 0)), true, api.OK)
	expect(t, "Who", results(shelf.Who(n, 20, 0)), upTo(20), api.OK)
	expect(t, "Where", results(shelf.Where(n, 20, 0)), upTo(20), api.OK)
	expect(t, "Empty", results(shelf.Empty(n, 21, 0)), api.Yes, api.OK)
	expect(t, "Sure", results(shelf.Sure(n, 0)), none, api.OK)
	expect(t, "Moved of one of three", results(shelf.Moved(n, 10, 0)), none, api.OK)
	n.Glimpses[59].Marks = nil
	expect(t, "Clash of a hole that is filled and empty", results(shelf.Clash(n, 0)), []int{120, 600}, api.OK)
}

// TestP32Lies takes inventories of papers that truly lie somewhere: where they lie is in all answers.
func TestP32Lies(t *testing.T) {
	r, unsure := rand.New(rand.NewPCG(34, 3)), 0
	for i := range 400 {
		holes := 8
		if i%10 == 0 {
			holes = api.MaxHoles
		}
		n, truly := someInventory(r, holes, api.MaxLying, 16, true)
		known := r.IntN(4)
		expect(t, "Sound", results(shelf.Sound(n, known)), true, api.OK)
		expect(t, "CheckLaid of the truth", results(shelf.CheckLaid(n, known, truly)), api.OK)
		for i, paper := range n.Papers {
			where, _ := shelf.Where(n, paper, known)
			who, _ := shelf.Who(n, truly[i], known)
			if !slices.Contains(where, truly[i]) || !slices.Contains(who, paper) {
				t.Errorf("%d lies in %d; Where is %v, Who is %v", paper, truly[i], where, who)
			}
		}
		for _, hole := range upTo(n.Holes) {
			empty, _ := shelf.Empty(n, hole, known)
			if empty == api.Maybe {
				unsure++
			} else if (empty == api.Yes) == slices.Contains(truly, hole) {
				t.Errorf("Empty(%d) = %d", hole, empty)
			}
			for i, paper := range n.Papers {
				lies, _ := shelf.Lies(n, paper, hole, known)
				if lies == api.Yes && truly[i] != hole || lies == api.No && truly[i] == hole {
					t.Errorf("%d lies in %d; Lies(%d) = %d", paper, truly[i], hole, lies)
				}
			}
		}
		sure, _ := shelf.Sure(n, known)
		for _, s := range sure {
			if truly[slices.Index(n.Papers, s.Paper)] != s.Hole {
				t.Errorf("Sure = %v", s)
			}
		}
		if t.Failed() {
			t.Fatalf("inventory %+v", n)
		}
	}
	if unsure < 400 {
		t.Errorf("only %d holes may be empty, or not", unsure)
	}
}

func TestP33Either(t *testing.T) {
	kinds := map[string]int{}
	either := func(r *rand.Rand, n api.Inventory, known int) {
		sound, _ := shelf.Sound(n, known)
		holes, e := shelf.Lay(n, known)
		c, f := shelf.Cramped(n, known)
		if sound {
			kinds["sound"]++
			expect(t, fmt.Sprint("CheckLaid ", holes), results(e, shelf.CheckLaid(n, known, holes)), api.OK, api.OK)
			expect(t, "Cramped", results(c, f), api.Cram{}, api.ErrSound)
		} else {
			kinds[fmt.Sprint("of holes: ", c.OfHoles)]++
			expect(t, fmt.Sprint("CheckCram ", c), results(f, shelf.CheckCram(n, known, c)), api.OK, api.OK)
			expect(t, "Lay", results(holes, e), none, api.ErrFalse)
		}
		if n.Holes > few()[0] {
			return
		}
		crammed := slices.ContainsFunc(crams(n), func(c api.Cram) bool { return shelf.CheckCram(n, known, c) == api.OK })
		if crammed == sound {
			t.Errorf("Sound = %v, but CheckCram accepts one: %v", sound, crammed)
		}
	}
	eachSome(t, 35, 1500, few(), either)
	eachSome(t, 36, 1500, [3]int{api.MaxHoles, api.MaxLying, 20}, either)
	if len(kinds) != 3 || slices.Min([]int{kinds["sound"], kinds["of holes: true"], kinds["of holes: false"]}) < 100 {
		t.Errorf("kinds of inventories: %v", kinds)
	}
}

// TestP34Shown adds a glimpse that says that a paper lies in a hole.
func TestP34Shown(t *testing.T) {
	wide := 0
	eachSome(t, 37, 300, [3]int{api.MaxHoles, api.MaxLying, 20}, func(r *rand.Rand, n api.Inventory, known int) {
		for _, paper := range n.Papers {
			where, e := shelf.Where(n, paper, known)
			if e != api.OK {
				expect(t, "Where", results(where, e), none, api.ErrFalse)
			}
			if len(where) > 1 {
				wide++
			}
			for _, hole := range upTo(n.Holes) {
				more, e := shelf.With(n, since(known, glimpse(99, hole, paper)))
				expect(t, "With", results(e), api.OK)
				expect(t, fmt.Sprint(paper, " in ", hole), results(shelf.Sound(more, known)), slices.Contains(where, hole), api.OK)
			}
		}
	})
	if wide < 300 {
		t.Errorf("only %d papers may lie in more than one hole", wide)
	}
}

func TestP35Conflicts(t *testing.T) {
	clashes := map[int]int{}
	conflicts := func(r *rand.Rand, n api.Inventory, known int) {
		sound, _ := shelf.Sound(n, known)
		by, e := shelf.Clash(n, known)
		if sound {
			expect(t, "Clash", results(by, e), none, api.ErrSound)
			return
		}
		clashes[len(by)]++
		expect(t, fmt.Sprint("CheckClash ", by), results(e, shelf.CheckClash(n, known, by)), api.OK, api.OK)
		// With any one of them left out the others are sound, and all of them are needed.
		for i := range by {
			fewer := slices.Delete(slices.Clone(by), i, i+1)
			expect(t, fmt.Sprint("CheckClash ", fewer), results(shelf.CheckClash(n, known, fewer)), api.ErrSound)
		}
	}
	eachSome(t, 38, 1500, few(), conflicts)
	eachSome(t, 39, 600, many(), conflicts)
	if len(clashes) < 4 {
		t.Errorf("sizes of clashes: %v", clashes)
	}
}

// TestP36Again looks into the holes of Again, where papers lie as they truly do.
func TestP36Again(t *testing.T) {
	r, sizes := rand.New(rand.NewPCG(40, 3)), map[int]int{}
	for range 700 {
		n, truly := someInventory(r, api.MaxAgain, api.MaxAgain, 8, true)
		known := r.IntN(4)
		for i, paper := range n.Papers {
			holes, e := shelf.Again(n, paper, known)
			where, _ := shelf.Where(n, paper, known)
			expect(t, fmt.Sprint("CheckAgain ", holes), results(e, shelf.CheckAgain(n, paper, known, holes)), api.OK, api.OK)
			if (len(holes) == 0) != (len(where) == 1) {
				t.Errorf("Again(%d) = %v; Where is %v", paper, holes, where)
			}
			sizes[len(holes)]++
			more := n
			for j, hole := range holes {
				g := since(known, glimpse(100+j, hole))
				if at := slices.Index(truly, hole); at >= 0 {
					g.Marks = []int{n.Papers[at]}
				}
				more, _ = shelf.With(more, g)
			}
			expect(t, fmt.Sprint("Where of ", paper, " when it is seen what is in ", holes), results(shelf.Where(more, paper, known)), []int{truly[i]}, api.OK)
			for _, fewer := range subsets(upTo(n.Holes)) {
				if len(fewer) < len(holes) {
					expect(t, fmt.Sprint("CheckAgain of fewer ", fewer), results(shelf.CheckAgain(n, paper, known, fewer)), api.ErrAgain)
				}
			}
		}
		if t.Failed() {
			t.Fatalf("inventory %+v", n)
		}
	}
	if sizes[0] < 100 || sizes[1] < 100 || sizes[2] < 100 || sizes[5] < 5 {
		t.Errorf("numbers of holes: %v", sizes)
	}
}

// TestP37Narrower adds one more glimpse that leaves the inventory sound.
func TestP37Narrower(t *testing.T) {
	narrower := 0
	eachSome(t, 41, 1500, [3]int{8, 7, 10}, func(r *rand.Rand, n api.Inventory, known int) {
		g := since(known, glimpse(2*r.IntN(10)+1, 1+r.IntN(n.Holes)))
		for _, paper := range n.Papers {
			if r.IntN(2) == 0 {
				g.Marks = append(g.Marks, paper)
			}
		}
		more, e := shelf.With(n, g)
		expect(t, "With", results(e), api.OK)
		if sound, _ := shelf.Sound(more, known); !sound {
			return
		}
		expect(t, "Sound without it", results(shelf.Sound(n, known)), true, api.OK)
		for _, q := range questions(n) {
			before, behind := q.ask(n, known), q.ask(more, known)
			switch q.name {
			case "Where", "Who":
				for _, one := range behind[0].([]int) {
					if !slices.Contains(before[0].([]int), one) {
						t.Errorf("%s is %v; with one more glimpse %v", q.name, before, behind)
					}
				}
				if len(behind[0].([]int)) < len(before[0].([]int)) {
					narrower++
				}
			case "Lies", "Empty":
				if before[0] != api.Maybe && !reflect.DeepEqual(before, behind) {
					t.Errorf("%s is %v; with one more glimpse %v", q.name, before, behind)
				}
			}
		}
	})
	if narrower < 500 {
		t.Errorf("only %d lists are narrower", narrower)
	}
}

// TestP37AsKnown adds what becomes known later, or ended before: nothing changes.
func TestP37AsKnown(t *testing.T) {
	eachSome(t, 42, 500, [3]int{7, 6, 10}, func(r *rand.Rand, n api.Inventory, known int) {
		count := n
		count.Glimpses = nil
		for _, g := range n.Glimpses {
			if g.Known <= known && (g.Until == 0 || g.Until > known) {
				count.Glimpses = append(count.Glimpses, g)
			}
		}
		later, e := shelf.With(n, since(known+1, glimpse(1, 1+r.IntN(n.Holes))))
		ended := glimpse(3, 1+r.IntN(n.Holes), n.Papers...)
		ended.Until = known
		if known > 0 && e == api.OK {
			later, e = shelf.With(later, ended)
		}
		expect(t, "With", results(e), api.OK)
		for _, q := range questions(n) {
			want := q.ask(n, known)
			expect(t, q.name+" of what counts", q.ask(count, known), want...)
			expect(t, q.name+" with what is known later", q.ask(later, known), want...)
		}
		expect(t, "Moved of what is known later", results(shelf.Moved(later, 1, known)), none, api.OK)
		if known > 0 {
			expect(t, "Moved of what ended", results(shelf.Moved(later, 3, known)), none, api.OK)
		}
	})
}

func TestP37Moved(t *testing.T) {
	kinds := map[string]int{}
	eachSome(t, 43, 1000, [3]int{8, 7, 12}, func(r *rand.Rand, n api.Inventory, known int) {
		for _, g := range n.Glimpses {
			moved, e := shelf.Moved(n, g.Source, known)
			without, f := shelf.Without(n, g.Source)
			expect(t, "Moved, Without", results(e, f), api.OK, api.OK)
			for _, paper := range n.Papers {
				before, behind := results(shelf.Where(n, paper, known)), results(shelf.Where(without, paper, known))
				if slices.Contains(moved, paper) == reflect.DeepEqual(before, behind) {
					t.Errorf("Moved(%d) = %v; %d is in %v, without it in %v", g.Source, moved, paper, before, behind)
				}
			}
			if !slices.IsSorted(moved) {
				t.Errorf("Moved(%d) = %v", g.Source, moved)
			}
			switch len(moved) {
			case 0:
				kinds["none"]++
			case len(n.Papers):
				kinds["all"]++
			default:
				kinds["some"]++
			}
		}
	})
	if kinds["none"] < 200 || kinds["some"] < 200 || kinds["all"] < 200 {
		t.Errorf("kinds of glimpses: %v", kinds)
	}
}
