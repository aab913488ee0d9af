package vestry

import (
	"slices"

	"parvise/api"
	"parvise/chest"
	"parvise/due"
	"parvise/keys"
	"parvise/loan"
	"parvise/shelf"
	"parvise/vellum"
)

func (d *doing) queryActs() map[int]func() []string {
	return map[int]func() []string{
		api.CmdHolder:   d.holder,
		api.CmdHand:     d.hand,
		api.CmdOffice:   d.office,
		api.CmdLawful:   d.lawful,
		api.CmdOpeners:  d.openers,
		api.CmdWhere:    d.where,
		api.CmdWhole:    d.whole,
		api.CmdDays:     d.days,
		api.CmdHas:      d.has,
		api.CmdClash:    d.clash,
		api.CmdLies:     d.lies,
		api.CmdHole:     d.hole,
		api.CmdSure:     d.sure,
		api.CmdLook:     d.look,
		api.CmdMisread:  d.misread,
		api.CmdFewest:   d.fewest,
		api.CmdParent:   d.parent,
		api.CmdRoots:    d.roots,
		api.CmdAgreed:   d.agreed,
		api.CmdPedigree: d.pedigree,
		api.CmdProve:    d.prove,
		api.CmdOrder:    d.order,
		api.CmdOrders:   d.orders,
		api.CmdNext:     d.next,
		api.CmdPlace:    d.place,
		api.CmdDoubt:    d.doubt,
		api.CmdTrue:     d.isTrue,
		api.CmdInside:   d.inside,
		api.CmdUnlawful: d.unlawful,
		api.CmdContent:  d.content,
		api.CmdFine:     d.fine,
		api.CmdOwed:     d.owed,
		api.CmdShares:   d.shares,
		api.CmdOverdue:  d.overdue,
		api.CmdHolds:    d.holds,
		api.CmdAt:       d.at,
		api.CmdCarried:  d.carried,
		api.CmdRecords:  d.records,
	}
}

func (d *doing) holder() []string {
	return list(keys.Holders(d.deeds(), d.args[1], d.args[2], d.args[3]))
}

func (d *doing) hand() []string {
	return list(keys.Hands(d.deeds(), d.args[1], d.args[2], d.args[3]))
}

func (d *doing) office() []string {
	return told(keys.InOffice(d.deeds(), d.args[1], d.args[2], d.args[3]))
}

func (d *doing) lawful() []string {
	return told(keys.Lawful(d.deeds(), d.args[1:4], d.args[4], d.args[5]))
}

func (d *doing) openers() []string { return list(keys.Openers(d.deeds(), d.args[1], d.args[2])) }

func (d *doing) where() []string {
	f := api.Folio{Paper: d.args[1], Leaf: d.args[2]}
	return list(loan.Where(d.ledger(), f, d.args[3], d.args[4]))
}

func (d *doing) whole() []string {
	return told(loan.Whole(d.ledger(), d.args[1], d.args[2], d.args[3]))
}

func (d *doing) days() []string { return span(loan.Days(d.ledger(), d.args[1], d.args[2])) }

func (d *doing) has() []string {
	l := must(loan.Has(d.ledger(), d.args[1], d.args[2], d.args[3]))
	return lines(l, func(f api.Folio) string { return row(f.Paper, f.Leaf) })
}

func (d *doing) clash() []string { return list(loan.Clash(d.ledger(), d.args[1])) }

func (d *doing) lies() []string {
	return told(shelf.Lies(d.inventory(), d.args[1], d.args[2], d.args[3]))
}

func (d *doing) hole() []string { return list(shelf.Where(d.inventory(), d.args[1], d.args[2])) }

func (d *doing) look() []string { return list(shelf.Again(d.inventory(), d.args[1], d.args[2])) }

func (d *doing) sure() []string {
	l := must(shelf.Sure(d.inventory(), d.args[1]))
	return lines(l, func(s api.Spot) string { return row(s.Paper, s.Hole) })
}

func (d *doing) misread() []string { return list(shelf.Clash(d.inventory(), d.args[1])) }

func (d *doing) doubt() []string { return one(chest.Fewest(d.openings(d.args[1]), d.args[1])) }

func (d *doing) isTrue() []string {
	return told(chest.True(d.openings(d.args[2]), d.args[1], d.args[2]))
}

func (d *doing) inside() []string {
	return told(chest.Inside(d.openings(d.args[3]), d.args[1], d.args[2], d.args[3]))
}

func (d *doing) unlawful() []string { return list(chest.Unlawful(d.openings(d.args[1]), d.args[1])) }

func (d *doing) content() []string {
	return list(chest.Content(d.openings(d.args[2]), d.args[1], d.args[2]))
}

func (d *doing) fine() []string { return span(due.Fine(d.account(), d.args[1], d.args[2])) }

func (d *doing) owed() []string { return one(due.Owed(d.account(), d.args[1], d.args[2])) }

func (d *doing) shares() []string {
	l := must(due.Shares(d.account(), d.args[1], d.args[2]))
	return lines(l, func(s api.Share) string { return row(s.Person, s.Pence) })
}

func (d *doing) overdue() []string { return list(due.Overdue(d.account(), d.args[1])) }

// book returns the records of the command's parish.
func (d *doing) book() api.Book { return must(vellum.Sorted(d.home().Log)) }

func (d *doing) deeds() []api.Deed { return must(Deeds(d.book())) }

// ledger returns what was lent of the papers that there are.
func (d *doing) ledger() api.Ledger {
	l := must(Ledger(d.book()))
	l.Papers = d.setting.Papers
	strange := func(paper, leaf int) bool {
		return !slices.ContainsFunc(l.Papers, func(p api.Paper) bool { return p.Id == paper && p.Leaves >= leaf })
	}
	l.Receipts = slices.DeleteFunc(l.Receipts, func(r api.Receipt) bool { return strange(r.Paper, slices.Max(r.Leaves)) })
	l.Sights = slices.DeleteFunc(l.Sights, func(s api.Sight) bool { return strange(s.Paper, s.Leaf) })
	return l
}

// inventory returns what was seen of the holes and the papers that there are.
func (d *doing) inventory() api.Inventory {
	l := must(Glimpses(d.book()))
	n := api.Inventory{Holes: d.setting.Holes, Papers: d.setting.Lying}
	strange := func(mark int) bool { return !slices.Contains(n.Papers, mark) }
	n.Glimpses = slices.DeleteFunc(l, func(g api.Glimpse) bool { return g.Hole > n.Holes || slices.ContainsFunc(g.Marks, strange) })
	return n
}

func (d *doing) openings(known int) []api.Opening { return must(Openings(d.book(), known)) }

func (d *doing) account() api.Account {
	a := must(Account(d.book()))
	a.Rules = d.setting.Rules
	return a
}
