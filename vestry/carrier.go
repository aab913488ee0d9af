package vestry

import (
	"slices"

	"parvise/api"
	"parvise/basic"
	"parvise/lend"
	"parvise/vellum"
)

func (d *doing) carrierActs() map[int]func() []string {
	return map[int]func() []string{
		api.CmdSend:    d.send,
		api.CmdDeliver: d.deliver,
		api.CmdLose:    d.lose,
		api.CmdDouble:  d.double,
		api.CmdFlood:   d.flood,
		api.CmdRenew:   d.renew,
		api.CmdGive:    d.give,
		api.CmdWrite:   d.write,
		api.CmdDry:     d.dry,
		api.CmdSoak:    d.soak,
		api.CmdPack:    d.pack,
		api.CmdOpen:    d.open,
		api.CmdDrop:    d.drop,
		api.CmdTwice:   d.twice,
	}
}

func (d *doing) send() []string {
	p, l, e := vellum.Send(*d.home(), d.args[1])
	check(e)
	letters := oneMore(d.letters, l, api.MaxLetters)
	*d.home(), d.letters = p, letters
	return d.letterCount()
}

func (d *doing) deliver() []string {
	l, left := takeOne(d.letters, d.args[0])
	// It is gone, even if it is not received.
	d.letters = left
	p, back, e := vellum.Receive(d.parishes[l.To], l)
	check(e)
	d.parishes[l.To], d.letters = p, append(left, back...)
	return d.letterCount()
}

func (d *doing) lose() []string {
	_, d.letters = takeOne(d.letters, d.args[0])
	return d.letterCount()
}

func (d *doing) double() []string {
	l, _ := takeOne(d.letters, d.args[0])
	d.letters = oneMore(d.letters, l, api.MaxLetters)
	return d.letterCount()
}

func (d *doing) flood() []string {
	p := must(vellum.Restart(*d.home(), d.args[1:]))
	*d.home() = p
	return []string{basic.Phrase("records", len(p.Log))}
}

func (d *doing) renew() []string {
	p := must(vellum.Renew(*d.home()))
	*d.home() = p
	return done()
}

func (d *doing) give() []string { return d.become(lend.Send(*d.desk(), d.args[1], d.args[2])) }

func (d *doing) write() []string { return d.become(lend.Write(*d.desk())) }

func (d *doing) dry() []string { return d.become(lend.Dry(*d.desk())) }

func (d *doing) soak() []string { return d.become(lend.Flood(*d.desk(), d.args[1])) }

func (d *doing) pack() []string {
	b := must(lend.Pack(*d.desk(), d.args[1]))
	d.bags = oneMore(d.bags, b, api.MaxBags)
	return d.bagCount()
}

func (d *doing) open() []string {
	b, left := takeOne(d.bags, d.args[0])
	// It is gone, even if it cannot be opened.
	d.bags = left
	d.desks[b.To] = must(lend.Open(d.desks[b.To], b))
	return d.bagCount()
}

func (d *doing) drop() []string {
	_, d.bags = takeOne(d.bags, d.args[0])
	return d.bagCount()
}

func (d *doing) twice() []string {
	b, _ := takeOne(d.bags, d.args[0])
	d.bags = oneMore(d.bags, b, api.MaxBags)
	return d.bagCount()
}

// desk returns the desk of the command's parish.
func (d *doing) desk() *api.Desk { return &d.desks[d.args[0]] }

// become is the answer of a command by which the desk becomes another one.
func (d *doing) become(desk api.Desk, e api.Errno) []string {
	check(e)
	*d.desk() = desk
	return done()
}

// letterCount is the answer that tells how many letters there are.
func (d *doing) letterCount() []string { return []string{basic.Phrase("letters", len(d.letters))} }

// bagCount is the answer that tells how many bags there are.
func (d *doing) bagCount() []string { return []string{basic.Phrase("bags", len(d.bags))} }

// takeOne returns the n-th one of those under way, and the others; it is refused if there are none.
func takeOne[T any](l []T, n int) (T, []T) {
	check(basic.Verdict(len(l) > 0, api.ErrNone))
	at := basic.Modulo(n, len(l))
	return l[at], slices.Delete(slices.Clone(l), at, at+1)
}

// oneMore returns a list with one more element behind the others; it is refused if there are as many as may be.
func oneMore[T any](l []T, v T, most int) []T {
	check(basic.Verdict(len(l) < most, api.ErrLong))
	return append(l, v)
}
