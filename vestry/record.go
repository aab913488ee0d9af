package vestry

import (
	"slices"

	"parvise/api"
	"parvise/basic"
	"parvise/vellum"
)

func (d *doing) recordActs() map[int]func() []string {
	return map[int]func() []string{
		api.CmdDeed:     d.deed,
		api.CmdReceipt:  d.receipt,
		api.CmdReturn:   d.comeBack,
		api.CmdSight:    d.sight,
		api.CmdGlimpse:  d.glimpse,
		api.CmdOpening:  d.opening,
		api.CmdLent:     d.lent,
		api.CmdBack:     d.back,
		api.CmdAsking:   d.asking,
		api.CmdPayment:  d.payment,
		api.CmdSurety:   d.surety,
		api.CmdWithdraw: d.withdraw,
	}
}

func (d *doing) deed() []string     { return say(d, api.RecDeed, entry.deed) }
func (d *doing) receipt() []string  { return say(d, api.RecReceipt, entry.receipt) }
func (d *doing) comeBack() []string { return say(d, api.RecReturn, entry.comeBack) }
func (d *doing) sight() []string    { return say(d, api.RecSight, entry.sight) }
func (d *doing) glimpse() []string  { return say(d, api.RecGlimpse, entry.glimpse) }
func (d *doing) opening() []string  { return say(d, api.RecOpening, entry.opening) }
func (d *doing) lent() []string     { return say(d, api.RecLent, entry.lent) }
func (d *doing) back() []string     { return say(d, api.RecBack, entry.back) }
func (d *doing) asking() []string   { return say(d, api.RecAsking, entry.asking) }
func (d *doing) payment() []string  { return say(d, api.RecPayment, entry.payment) }
func (d *doing) surety() []string   { return say(d, api.RecSurety, entry.surety) }

func (d *doing) withdraw() []string {
	log := d.home().Log
	of := api.Item{Parish: d.args[0], No: d.args[2]}
	at := slices.IndexFunc(log, func(r api.Record) bool { return r.At == of })
	check(basic.Verdict(at >= 0, api.ErrNone))
	gone := slices.ContainsFunc(log, func(r api.Record) bool { return r.Kind == api.RecWithdraw && r.Of == of })
	check(basic.Verdict(log[at].Kind != api.RecWithdraw && !gone, api.ErrArg))
	return d.note(api.Record{Kind: api.RecWithdraw, Known: d.args[1], Of: of})
}

// say notes a record, if what it says is valid.
func say[T any](d *doing, kind int, read func(entry) (T, api.Errno)) []string {
	numbers := d.args[3:]
	// The item that it gets, and its source, are as valid as those of the first record.
	r := api.Record{At: api.Item{Parish: d.args[0]}, Kind: kind, Day: d.args[1], Known: d.args[2], Text: row(numbers...)}
	must(read(entryOf(r, 0, numbers)))
	return d.note(r)
}

// note notes a record in the parish.
func (d *doing) note(r api.Record) []string {
	p, noted, e := vellum.Note(*d.home(), r)
	check(e)
	*d.home() = p
	return []string{basic.Phrase("record", noted.At.Parish, noted.At.No)}
}

// home returns the parish of the command.
func (d *doing) home() *api.Parish { return &d.parishes[d.args[0]] }
