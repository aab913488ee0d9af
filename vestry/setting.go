package vestry

import (
	"cmp"
	"slices"

	"parvise/api"
	"parvise/basic"
	"parvise/due"
	"parvise/leaf"
	"parvise/loan"
	"parvise/shelf"
	"parvise/stem"
)

func (d *doing) settingActs() map[int]func() []string {
	return map[int]func() []string{
		api.CmdPaper:  d.paper,
		api.CmdRule:   d.rule,
		api.CmdHoles:  d.holes,
		api.CmdShelve: d.shelve,
		api.CmdCopy:   d.copy,
		api.CmdCosts:  d.costs,
		api.CmdNever:  d.never,
		api.CmdStray:  d.stray,
		api.CmdSew:    d.sew,
		api.CmdClear:  d.clear,
	}
}

func (d *doing) paper() []string {
	p := api.Paper{Id: d.args[0], Leaves: d.args[1]}
	check(loan.CheckPaper(p))
	papers := put(d.setting.Papers, p, func(a, b api.Paper) int { return cmp.Compare(a.Id, b.Id) })
	check(basic.Verdict(len(papers) <= api.MaxPapers, api.ErrLong))
	d.setting.Papers = papers
	return done()
}

func (d *doing) rule() []string {
	r := api.Rule{From: d.args[0], Daily: d.args[1], Leaf: d.args[2]}
	check(due.CheckRule(r))
	rules := put(d.setting.Rules, r, func(a, b api.Rule) int { return cmp.Compare(a.From, b.From) })
	check(basic.Verdict(len(rules) <= api.MaxRules, api.ErrLong))
	d.setting.Rules = rules
	return done()
}

func (d *doing) holes() []string {
	check(basic.Verdict(basic.Within(d.args[0], 1, api.MaxHoles), api.ErrArg))
	d.setting.Holes, d.setting.Lying = d.args[0], nil
	return done()
}

func (d *doing) shelve() []string {
	papers := put(d.setting.Lying, d.args[0], cmp.Compare)
	check(shelf.Check(api.Inventory{Holes: d.setting.Holes, Papers: papers}))
	d.setting.Lying = papers
	return done()
}

func (d *doing) copy() []string {
	c := api.Copy{Id: d.args[0], Words: slices.Clone(d.args[1:])}
	s := d.setting.Stem
	if isCopy(s, c.Id) {
		check(stem.CheckCopy(c))
		s.Copies = put(s.Copies, c, func(a, b api.Copy) int { return cmp.Compare(a.Id, b.Id) })
	} else {
		s = must(stem.With(s, c))
	}
	d.setting.Stem = s
	return done()
}

func (d *doing) costs() []string {
	c := api.Costs{Lose: d.args[0], Gain: d.args[1], Like: d.args[2], Turn: d.args[3]}
	check(stem.CheckCosts(c))
	d.setting.Stem.Costs = c
	return done()
}

func (d *doing) never() []string {
	n := api.Never{From: d.args[0], To: d.args[1]}
	s := d.setting.Stem
	check(basic.Verdict(isCopy(s, n.From) && isCopy(s, n.To) && n.From != n.To, api.ErrArg))
	never := put(s.Never, n, func(a, b api.Never) int {
		return cmp.Or(cmp.Compare(a.From, b.From), cmp.Compare(a.To, b.To))
	})
	check(basic.Verdict(len(never) <= api.MaxNever, api.ErrLong))
	d.setting.Stem.Never = never
	return done()
}

func (d *doing) stray() []string {
	a := d.args
	s := api.Stray{Id: a[0], Paper: a[1], First: a[2], Catch: a[3], Holes: a[4], Unsure: a[5]}
	d.setting.Heap = must(leaf.Found(d.setting.Heap, s))
	return done()
}

func (d *doing) sew() []string {
	h := d.setting.Heap
	from, to := d.args[0], d.args[1]
	// Not put: what is sewn to a sheet already stays there, so that the heap is not valid.
	at, _ := slices.BinarySearchFunc(h.Sewn, from, func(s api.Sewn, from int) int { return cmp.Compare(s.From, from) })
	h.Sewn = slices.Insert(slices.Clone(h.Sewn), at, api.Sewn{From: from, To: to})
	check(leaf.Check(h))
	d.setting.Heap = h
	return done()
}

func (d *doing) clear() []string {
	d.setting.Stem, d.setting.Heap = api.Stem{}, api.Heap{}
	return done()
}

// isCopy reports whether a stem has a copy with this Id.
func isCopy(s api.Stem, id int) bool {
	return slices.ContainsFunc(s.Copies, func(c api.Copy) bool { return c.Id == id })
}
