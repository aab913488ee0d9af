package basic_test

import (
	"cmp"
	"math"
	"testing"

	"parvise/api"
	"parvise/basic"
)

func TestTimes(t *testing.T) {
	for _, c := range []struct {
		known, until int
		times        bool
	}{
		{0, 0, true}, {0, 1, true}, {api.MaxDay, 0, true}, {api.MaxDay - 1, api.MaxDay, true}, {5, 6, true},
		{-1, 0, false}, {api.MaxDay + 1, 0, false}, {5, 5, false}, {5, 4, false}, {0, -1, false}, {api.MaxDay, api.MaxDay + 1, false},
	} {
		if basic.AreTimes(c.known, c.until) != c.times {
			t.Errorf("AreTimes(%d, %d): expected %v", c.known, c.until, c.times)
		}
	}
}

func TestDays(t *testing.T) {
	for _, c := range []struct {
		lo, hi int
		days   bool
	}{{0, 0, true}, {0, api.MaxDay, true}, {4, 4, true}, {4, 3, false}, {-1, 3, false}, {0, api.MaxDay + 1, false}, {api.MaxDay + 1, api.MaxDay + 1, false}} {
		if basic.AreDays(api.Range{Lo: c.lo, Hi: c.hi}) != c.days {
			t.Errorf("AreDays(%d to %d): expected %v", c.lo, c.hi, c.days)
		}
	}
	if e := basic.CheckDays(0, api.MaxDay); e != api.OK {
		t.Errorf("CheckDays = %v", e)
	}
	for _, day := range []int{-1, api.MaxDay + 1} {
		if e := basic.CheckDays(0, day); e != api.ErrDay {
			t.Errorf("CheckDays(%d) = %v; expected ErrDay", day, e)
		}
	}
}

func TestNames(t *testing.T) {
	for n, is := range map[int]bool{1: true, 500: true, api.MaxPaper: true, 0: false, -1: false, api.MaxPaper + 1: false} {
		if basic.IsPaper(n) != is || basic.CheckPaper(n) != basic.Verdict(is, api.ErrArg) {
			t.Errorf("the paper %d: expected %v", n, is)
		}
	}
	for n, is := range map[int]bool{1: true, 50: true, api.MaxPerson: true, 0: false, -1: false, api.MaxPerson + 1: false} {
		if basic.IsPerson(n) != is {
			t.Errorf("the person %d: expected %v", n, is)
		}
	}
	for n, is := range map[int]bool{1: true, 500: true, api.MaxSource: true, 0: false, -1: false, api.MaxSource + 1: false} {
		if basic.IsSource(n) != is {
			t.Errorf("the source %d: expected %v", n, is)
		}
	}
}

func TestItems(t *testing.T) {
	for n, is := range map[int]bool{0: true, 3: true, api.MaxParishes - 1: true, -1: false, api.MaxParishes: false} {
		if basic.IsParish(n) != is || basic.IsItem(api.Item{Parish: n, No: 5}) != is {
			t.Errorf("the parish %d: expected %v", n, is)
		}
	}
	for n, is := range map[int]bool{0: true, 500: true, api.MaxNo: true, -1: false, api.MaxNo + 1: false} {
		if basic.IsItem(api.Item{Parish: 2, No: n}) != is {
			t.Errorf("the item %d: expected %v", n, is)
		}
	}
	rising := []api.Item{{Parish: 0, No: 7}, {Parish: 1, No: 0}, {Parish: 1, No: 3}, {Parish: 2, No: 1}}
	for i, a := range rising {
		for j, b := range rising {
			if c := basic.CompareItems(a, b); c != cmp.Compare(i, j) {
				t.Errorf("CompareItems(%v, %v) = %d", a, b, c)
			}
		}
	}
}

func TestModulo(t *testing.T) {
	for _, c := range []struct{ a, n, want int }{
		{0, 1, 0}, {7, 1, 0}, {-7, 1, 0}, {7, 3, 1}, {6, 3, 0}, {-1, 3, 2}, {-3, 3, 0}, {-4, 3, 2}, {2, 3, 2},
		{math.MinInt, 2, 0}, {math.MinInt, 3, 1}, {math.MaxInt, 2, 1}, {math.MinInt + 1, 1 << 31, 1}, {-1, math.MaxInt, math.MaxInt - 1},
	} {
		if got := basic.Modulo(c.a, c.n); got != c.want {
			t.Errorf("Modulo(%d, %d) = %d; expected %d", c.a, c.n, got, c.want)
		}
	}
}

func TestCounts(t *testing.T) {
	for _, c := range []struct {
		known, until, day int
		counts            bool
	}{{5, 0, 4, false}, {5, 0, 5, true}, {5, 0, 9, true}, {5, 7, 4, false}, {5, 7, 6, true}, {5, 7, 7, false}} {
		if basic.Counts(c.known, c.until, c.day) != c.counts {
			t.Errorf("Counts(%d, %d, %d): expected %v", c.known, c.until, c.day, c.counts)
		}
	}
}

func TestAnswers(t *testing.T) {
	if basic.Answer(true, false) != api.Yes || basic.Answer(false, true) != api.No || basic.Answer(true, true) != api.Maybe {
		t.Error("Answer")
	}
	if basic.First(api.OK, api.ErrDay, api.ErrArg) != api.ErrDay || basic.First(api.OK) != api.OK || basic.First() != api.OK {
		t.Error("First")
	}
	if basic.Verdict(true, api.ErrArg) != api.OK || basic.Verdict(false, api.ErrArg) != api.ErrArg {
		t.Error("Verdict")
	}
}
