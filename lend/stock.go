package lend

import (
	"cmp"
	"iter"

	"parvise/api"
	"parvise/basic"
)

// CheckStock reports whether a stock is one of a parish.
func CheckStock(me int, s api.Stock) api.Errno { return basic.Verdict(isStock(me, s), api.ErrStock) }

// Sum is the sum of a stock that is written as the n-th one.
func Sum(s api.Stock, n int) (int, api.Errno) {
	e := basic.First(checkAnyStock(s), basic.Verdict(isCount(n), api.ErrArg))
	if e != api.OK {
		return 0, e
	}
	return sumOf(s, n), api.OK
}

// isStock reports whether a stock is valid for a parish.
func isStock(me int, s api.Stock) bool {
	if !basic.IsParish(me) || s.Sent[me] != 0 || s.Taken[me] != 0 {
		return false
	}
	for to, l := range s.Under {
		if !isCount(s.Sent[to]) || !isCount(s.Taken[to]) || !areLast(l, s.Sent[to]) {
			return false
		}
	}
	return areHeld(s.Holds)
}

// checkAnyStock returns ErrStock if a stock is valid for no parish.
func checkAnyStock(s api.Stock) api.Errno {
	for me := range api.MaxParishes {
		if isStock(me, s) {
			return api.OK
		}
	}
	return api.ErrStock
}

// areHeld reports whether papers may be those that a parish has.
func areHeld(papers []int) bool {
	return len(papers) <= api.MaxHolds && basic.AreAll(papers, basic.IsPaper) && basic.AreRising(papers, cmp.Compare)
}

// areLast reports whether parcels may be the last ones of so many that were sent to a parish.
func areLast(l []api.Parcel, sent int) bool {
	return len(l) <= min(api.MaxParcels, sent) && areNumbered(l, sent-len(l)+1)
}

// areNumbered reports whether parcels have papers, and the numbers from the first one on.
func areNumbered(l []api.Parcel, first int) bool {
	for i, p := range l {
		if p.No != first+i || !basic.IsPaper(p.Paper) {
			return false
		}
	}
	return true
}

// isCount reports whether a number may be one of parcels, or of times that something was written.
func isCount(n int) bool { return basic.Within(n, 0, api.MaxCount) }

// sumOf returns the sum of a stock that is written as the n-th one.
func sumOf(s api.Stock, n int) int { return basic.Sum(n%api.PageSum, api.PageSum, textOf(s)) }

// parcelsOf yields the parcels of a stock, each with its parish: by the parishes, and then in order.
func parcelsOf(s api.Stock) iter.Seq2[int, api.Parcel] {
	return func(yield func(int, api.Parcel) bool) {
		for to, l := range s.Under {
			for _, p := range l {
				if !yield(to, p) {
					return
				}
			}
		}
	}
}

func byNo(a, b api.Parcel) int { return cmp.Compare(a.No, b.No) }
