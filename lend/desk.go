package lend

import (
	"cmp"
	"slices"

	"parvise/api"
	"parvise/basic"
)

// allDry is Wet of a desk whose pages both are dry.
const allDry = -1

// CheckPage reports whether a page is right.
func CheckPage(me int, p api.Page) api.Errno { return basic.Verdict(isRight(me, p), api.ErrPage) }

// Check reports whether a desk is valid.
func Check(d api.Desk) api.Errno {
	ok := isStock(d.Me, d.Now) && basic.Within(d.Wet, allDry, len(d.Pages)-1) && arePages(d)
	return basic.Verdict(ok, api.ErrDesk)
}

// Holds returns the papers that are here.
func Holds(d api.Desk) ([]int, api.Errno) {
	if e := Check(d); e != api.OK {
		return nil, e
	}
	return slices.Clone(d.Now.Holds), api.OK
}

// Under returns the papers that are under way to a parish, as far as is known here.
func Under(d api.Desk, to int) ([]int, api.Errno) {
	if e := basic.First(Check(d), checkTown(d, to)); e != api.OK {
		return nil, e
	}
	var papers []int
	for _, p := range d.Now.Under[to] {
		papers = append(papers, p.Paper)
	}
	return papers, api.OK
}

// Firm returns the stock from which bags are packed.
func Firm(d api.Desk) (api.Stock, api.Errno) {
	if e := Check(d); e != api.OK {
		return api.Stock{}, e
	}
	return basic.CopyStock(firmOf(d)), api.OK
}

// Where returns the parishes that have a paper.
func Where(l []api.Desk, paper int) ([]int, api.Errno) {
	if e := basic.First(checkDesks(l), basic.CheckPaper(paper)); e != api.OK {
		return nil, e
	}
	var parishes []int
	for _, d := range l {
		if slices.Contains(d.Now.Holds, paper) {
			parishes = append(parishes, d.Me)
		}
	}
	return parishes, api.OK
}

// Carried returns the parishes from which, and to which, a paper is under way.
func Carried(l []api.Desk, paper int) ([][2]int, api.Errno) {
	if e := basic.First(checkDesks(l), basic.CheckPaper(paper)); e != api.OK {
		return nil, e
	}
	var ways [][2]int
	for _, d := range l {
		for to, p := range parcelsOf(d.Now) {
			if p.Paper == paper && p.No > takenBy(l, to, d.Me) {
				ways = append(ways, [2]int{d.Me, to})
			}
		}
	}
	return ways, api.OK
}

// Quiet reports whether nothing is under way.
func Quiet(l []api.Desk) (bool, api.Errno) {
	if e := checkDesks(l); e != api.OK {
		return false, e
	}
	for _, d := range l {
		for range parcelsOf(d.Now) {
			return false, api.OK
		}
	}
	return true, api.OK
}

// takenBy returns how many parcels a parish has taken from another one: none, if it has none of the desks.
func takenBy(l []api.Desk, me, from int) int {
	for _, d := range l {
		if d.Me == me {
			return d.Now.Taken[from]
		}
	}
	return 0
}

// written returns a page on which a stock is written as the n-th one.
func written(s api.Stock, n int) api.Page {
	return api.Page{Count: n, Stock: basic.CopyStock(s), Sum: sumOf(s, n)}
}

// isRight reports whether a page is right for a parish.
func isRight(me int, p api.Page) bool {
	return isCount(p.Count) && isStock(me, p.Stock) && p.Sum == sumOf(p.Stock, p.Count)
}

// arePages reports whether the pages of a desk are such that one of them is firm.
func arePages(d api.Desk) bool {
	first, second := isRight(d.Me, d.Pages[0]), isRight(d.Me, d.Pages[1])
	if d.Wet != allDry {
		return first && second && d.Pages[d.Wet].Count > d.Pages[1-d.Wet].Count
	}
	if first && second {
		return d.Pages[0].Count != d.Pages[1].Count
	}
	return first || second
}

// firmAt returns the index of the firm page of a valid desk.
func firmAt(d api.Desk) int {
	switch {
	case d.Wet != allDry:
		return 1 - d.Wet
	case !isRight(d.Me, d.Pages[0]):
		return 1
	case isRight(d.Me, d.Pages[1]) && d.Pages[1].Count > d.Pages[0].Count:
		return 1
	}
	return 0
}

// firmOf returns the stock of the firm page of a valid desk.
func firmOf(d api.Desk) api.Stock { return d.Pages[firmAt(d)].Stock }

// checkTown returns ErrTown if a desk can send nothing to a parish.
func checkTown(d api.Desk, to int) api.Errno {
	return basic.Verdict(basic.IsParish(to) && to != d.Me, api.ErrTown)
}

// checkDesks returns ErrDesks if a list is none of desks.
func checkDesks(l []api.Desk) api.Errno {
	ok := len(l) <= api.MaxParishes && basic.AreRising(l, byParish) &&
		basic.AreAll(l, func(d api.Desk) bool { return Check(d) == api.OK })
	return basic.Verdict(ok, api.ErrDesks)
}

func byParish(a, b api.Desk) int { return cmp.Compare(a.Me, b.Me) }
