package basic_test

import (
	"cmp"
	"testing"

	"parvise/basic"
)

func TestAreAll(t *testing.T) {
	for _, c := range []struct {
		l  []int
		is bool
	}{{nil, true}, {[]int{3}, true}, {[]int{0, 3, 0}, true}, {[]int{4}, false}, {[]int{3, -1, 3}, false}, {[]int{3, 4}, false}} {
		if basic.AreAll(c.l, func(n int) bool { return basic.Within(n, 0, 3) }) != c.is {
			t.Errorf("AreAll %v: expected %v", c.l, c.is)
		}
	}
}

func TestAreRising(t *testing.T) {
	for _, c := range []struct {
		l  []int
		is bool
	}{{nil, true}, {[]int{3}, true}, {[]int{1, 3}, true}, {[]int{3, 3}, false}, {[]int{1, 3, 2}, false}} {
		if basic.AreRising(c.l, cmp.Compare) != c.is {
			t.Errorf("AreRising %v: expected %v", c.l, c.is)
		}
	}
}
