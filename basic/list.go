package basic

import (
	"slices"

	"parvise/api"
)

// AreAll reports whether something is so of each element of a list.
func AreAll[T any](l []T, is func(T) bool) bool {
	return !slices.ContainsFunc(l, func(v T) bool { return !is(v) })
}

// AreRising reports whether each element of a list is ahead of the next one.
func AreRising[T any](l []T, compare func(a, b T) int) bool {
	for i := range l {
		if i > 0 && compare(l[i-1], l[i]) >= 0 {
			return false
		}
	}
	return true
}

// Share reports whether something is in both lists.
func Share[T comparable](l, other []T) bool {
	return slices.ContainsFunc(l, func(v T) bool { return slices.Contains(other, v) })
}

// Rising returns numbers in order, each once.
func Rising(l ...int) []int {
	l = slices.Clone(l)
	slices.Sort(l)
	return slices.Compact(l)
}

// Dates returns the days on which something of a list becomes known, or ends, rising, each once.
func Dates[T any](l []T, times func(T) (known, until int)) []int {
	var dates []int
	for _, v := range l {
		known, until := times(v)
		dates = append(dates, known)
		if until != 0 {
			dates = append(dates, until)
		}
	}
	return Rising(dates...)
}

// CopyStock returns a stock that shares no memory with s.
func CopyStock(s api.Stock) api.Stock {
	s.Holds = slices.Clone(s.Holds)
	for to, l := range s.Under {
		s.Under[to] = slices.Clone(l)
	}
	return s
}
