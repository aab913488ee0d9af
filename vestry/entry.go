package vestry

import (
	"slices"

	"parvise/api"
	"parvise/basic"
	"parvise/chest"
	"parvise/due"
	"parvise/keys"
	"parvise/loan"
	"parvise/shelf"
)

// manyOf is how many numbers the Text of a record of each kind has.
var manyOf = [...]int{
	api.RecDeed:    5,
	api.RecReceipt: 4,
	api.RecReturn:  6,
	api.RecSight:   3,
	api.RecGlimpse: 4,
	api.RecOpening: 9,
	api.RecLent:    4,
	api.RecBack:    4,
	api.RecAsking:  1,
	api.RecPayment: 2,
	api.RecSurety:  3,
}

// entry is a record with the numbers of its Text. What it says comes with the error of what is not valid.
type entry struct {
	api.Record
	until, source int
	n             []int
}

// opening is one of the chest, by three persons.
type opening struct {
	api.Opening
	persons []int
}

func (x entry) deed() (api.Deed, api.Errno) {
	d := api.Deed{At: x.At, Kind: x.n[0], Lock: x.n[1], Person: x.n[2], Day: x.daysFrom(3), Known: x.Known, Until: x.until}
	return d, keys.CheckDeed(d)
}

func (x entry) receipt() (api.Receipt, api.Errno) {
	leaves, e := leavesFrom(x.n[2], x.n[3])
	r := api.Receipt{Source: x.source, Borrower: x.n[0], Paper: x.n[1], Leaves: leaves, Day: x.Day, Known: x.Known, Until: x.until}
	return r, basic.First(e, loan.CheckReceipt(r))
}

func (x entry) comeBack() (api.Return, api.Errno) {
	leaves, e := leavesFrom(x.n[2], x.n[3])
	r := api.Return{Source: x.source, Receipt: x.n[0], Person: x.n[1], Leaves: leaves, Day: x.daysFrom(4), Known: x.Known, Until: x.until}
	return r, basic.First(e, loan.CheckReturn(r))
}

func (x entry) sight() (api.Sight, api.Errno) {
	s := api.Sight{Source: x.source, Person: x.n[0], Paper: x.n[1], Leaf: x.n[2], Day: x.Day, Known: x.Known, Until: x.until}
	return s, loan.CheckSight(s)
}

func (x entry) glimpse() (api.Glimpse, api.Errno) {
	marks, e := behindZeros(x.n[1:]...)
	g := api.Glimpse{Source: x.source, Hole: x.n[0], Marks: marks, Known: x.Known, Until: x.until}
	return g, basic.First(e, shelf.CheckGlimpse(g))
}

func (x entry) opening() (opening, api.Errno) {
	persons := slices.Clone(x.n[2:5])
	in, wrongIn := behindZeros(x.n[5:7]...)
	out, wrongOut := behindZeros(x.n[7:9]...)
	// Whether it was lawful is told by deeds.
	o := api.Opening{Source: x.source, Register: x.n[0], Day: x.Day, Through: x.n[1], Lawful: api.Maybe, In: in, Out: out, Known: x.Known, Until: x.until}
	return opening{o, persons}, basic.First(wrongIn, wrongOut, checkOpeners(persons), chest.CheckOpening(o))
}

func (x entry) lent() (api.Lent, api.Errno) {
	l := api.Lent{Source: x.source, Borrower: x.n[0], Paper: x.n[1], Day: x.Day, Due: x.n[2], Leaves: x.n[3], Known: x.Known, Until: x.until}
	return l, due.CheckLent(l)
}

func (x entry) back() (api.Back, api.Errno) {
	b := api.Back{Source: x.source, Loan: x.n[0], Leaves: x.n[1], Day: x.daysFrom(2), Known: x.Known, Until: x.until}
	return b, due.CheckBack(b)
}

func (x entry) asking() (api.Asking, api.Errno) {
	a := api.Asking{Source: x.source, Loan: x.n[0], Day: x.Day, Known: x.Known, Until: x.until}
	return a, due.CheckAsking(a)
}

func (x entry) payment() (api.Payment, api.Errno) {
	p := api.Payment{Source: x.source, Loan: x.n[0], Pence: x.n[1], Known: x.Known, Until: x.until}
	return p, due.CheckPayment(p)
}

func (x entry) surety() (api.Surety, api.Errno) {
	s := api.Surety{Source: x.source, Loan: x.n[0], Person: x.n[1], Worth: x.n[2], Known: x.Known, Until: x.until}
	return s, due.CheckSurety(s)
}

// daysFrom returns the range whose Lo is the number with this index.
func (x entry) daysFrom(at int) api.Range { return api.Range{Lo: x.n[at], Hi: x.n[at+1]} }
