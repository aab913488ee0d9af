package basic_test

import (
	"cmp"
	"fmt"
	"slices"
	"testing"

	"parvise/api"
	"parvise/basic"
)

func TestAreAll(t *testing.T) {
	for _, c := range []struct {
		l  []int
		is bool
	}{{nil, true}, {[]int{3}, true}, {[]int{0, 3, 0}, true}, {[]int{4}, false}, {[]int{3, -1, 3}, false}, {[]int{3, 4}, false}} {
		if basic.AreAll(c.l, func(n int) bool { return basic.Within(n, 0, 3) }) != c.is {
			t.Errorf("AreAll %v: expected %v", c.l, c.is)
		}
	}
}

func TestAreRising(t *testing.T) {
	for _, c := range []struct {
		l  []int
		is bool
	}{{nil, true}, {[]int{3}, true}, {[]int{1, 3}, true}, {[]int{3, 3}, false}, {[]int{1, 3, 2}, false}} {
		if basic.AreRising(c.l, cmp.Compare) != c.is {
			t.Errorf("AreRising %v: expected %v", c.l, c.is)
		}
	}
}

func TestShare(t *testing.T) {
	for _, c := range []struct {
		l, other []int
		share    bool
	}{{nil, nil, false}, {[]int{1}, nil, false}, {[]int{1, 2}, []int{3, 4}, false}, {[]int{1, 2}, []int{2, 3}, true}, {[]int{1, 2}, []int{3, 1}, true}, {[]int{5}, []int{5}, true}} {
		if basic.Share(c.l, c.other) != c.share || basic.Share(c.other, c.l) != c.share {
			t.Errorf("Share %v, %v: expected %v", c.l, c.other, c.share)
		}
	}
}

func TestRising(t *testing.T) {
	for _, c := range []struct{ l, want []int }{{nil, nil}, {[]int{3}, []int{3}}, {[]int{3, 1, 3, -2, 1}, []int{-2, 1, 3}}, {[]int{1, 2}, []int{1, 2}}} {
		l := slices.Clone(c.l)
		if got := basic.Rising(l...); !slices.Equal(got, c.want) || !slices.Equal(l, c.l) {
			t.Errorf("Rising %v = %v; %v is left", c.l, got, l)
		}
	}
}

func TestDates(t *testing.T) {
	for _, c := range []struct {
		l    [][2]int
		want []int
	}{{nil, nil}, {[][2]int{{0, 0}}, []int{0}}, {[][2]int{{5, 0}}, []int{5}}, {[][2]int{{5, 9}, {0, 5}, {7, 8}, {5, 0}}, []int{0, 5, 7, 8, 9}}} {
		if got := basic.Dates(c.l, func(v [2]int) (int, int) { return v[0], v[1] }); !slices.Equal(got, c.want) {
			t.Errorf("Dates %v = %v", c.l, got)
		}
	}
}

func TestCopyStock(t *testing.T) {
	s := api.Stock{Holds: []int{3, 7}, Sent: [6]int{0, 9, 0, 0, 0, 2}, Taken: [6]int{0, 4}}
	s.Under[1], s.Under[5] = []api.Parcel{{No: 8, Paper: 1}, {No: 9, Paper: 2}}, []api.Parcel{{No: 2, Paper: 5}}
	before := fmt.Sprint(s)
	copied := basic.CopyStock(s)
	if fmt.Sprint(copied) != before {
		t.Errorf("CopyStock of %s: %v", before, copied)
	}
	copied.Holds[1], copied.Under[1][0].No, copied.Under[5][0].Paper, copied.Sent[1] = 0, 0, 0, 0
	if fmt.Sprint(s) != before {
		t.Errorf("%s became %v", before, s)
	}
	if copied := basic.CopyStock(api.Stock{}); fmt.Sprint(copied) != fmt.Sprint(api.Stock{}) {
		t.Errorf("CopyStock of nothing: %v", copied)
	}
}
