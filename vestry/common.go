package vestry

import (
	"parvise/api"
	"parvise/basic"
	"parvise/leaf"
	"parvise/lend"
	"parvise/stem"
)

// Of the queries, these ask for nothing that a parish has recorded.

func (d *doing) fewest() []string { return one(stem.Fewest(d.setting.Stem)) }

func (d *doing) parent() []string {
	return told(stem.Parent(d.setting.Stem, d.args[0], d.args[1]))
}

func (d *doing) roots() []string { return list(stem.Roots(d.setting.Stem)) }

func (d *doing) agreed() []string { return list(stem.Agreed(d.setting.Stem)) }

func (d *doing) pedigree() []string { return list(stem.Pedigree(d.setting.Stem)) }

func (d *doing) prove() []string {
	bound := must(stem.Fewest(d.setting.Stem))
	var proof []int
	for _, w := range must(stem.Proof(d.setting.Stem)) {
		proof = append(proof, w.Set, w.Weight)
	}
	return []string{basic.Phrase("bound", bound), basic.Phrase(proofWord, proof...)}
}

func (d *doing) order() []string { return list(leaf.Order(d.setting.Heap, d.args[0])) }

func (d *doing) orders() []string { return one(leaf.Count(d.setting.Heap, d.args[0])) }

func (d *doing) next() []string {
	l := must(leaf.Sure(d.setting.Heap, d.args[0]))
	return lines(l, func(s api.Sewn) string { return row(s.From, s.To) })
}

func (d *doing) place() []string {
	s, e := leaf.Place(d.setting.Heap, d.args[0])
	return span(api.Range{Lo: s.First, Hi: s.Last}, e)
}

func (d *doing) holds() []string { return list(lend.Holds(*d.desk())) }

func (d *doing) at() []string { return list(lend.Where(d.desks[:], d.args[0])) }

func (d *doing) carried() []string {
	l := must(lend.Carried(d.desks[:], d.args[0]))
	return lines(l, func(way [2]int) string { return row(way[:]...) })
}

func (d *doing) records() []string {
	return lines(d.parishes[:], func(p api.Parish) string { return basic.Phrase("records", len(p.Log)) })
}
