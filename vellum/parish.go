package vellum

import (
	"slices"

	"parvise/api"
	"parvise/basic"
)

// NewParish makes a parish.
func NewParish(me int) (api.Parish, api.Errno) {
	if !basic.IsParish(me) {
		return api.Parish{}, api.ErrArg
	}
	return api.Parish{Me: me, Vellum: New()}, api.OK
}

// Note writes a record of the parish's own.
func Note(p api.Parish, r api.Record) (api.Parish, api.Record, api.Errno) {
	c, e := change(p)
	if e != api.OK {
		return api.Parish{}, api.Record{}, e
	}
	r.At = api.Item{Parish: c.Me, No: recordsOf(c.Log, c.Me)}
	if e := c.write(r); e != api.OK {
		return api.Parish{}, api.Record{}, e
	}
	return c.Parish, r, api.OK
}

// Renew turns the sheet of a parish.
func Renew(p api.Parish) (api.Parish, api.Errno) {
	c, e := change(p)
	if e != api.OK {
		return api.Parish{}, e
	}
	turned, e := Turn(c.Vellum, c.Log)
	if e != api.OK {
		return api.Parish{}, e
	}
	c.Vellum = Scrape(Dry(turned))
	return c.Parish, api.OK
}

// Send returns a letter to another parish.
func Send(p api.Parish, to int) (api.Parish, api.Letter, api.Errno) {
	c, e := change(p)
	if e := basic.First(e, basic.Verdict(basic.IsParish(to) && to != p.Me, api.ErrArg)); e != api.OK {
		return api.Parish{}, api.Letter{}, e
	}
	c.Vellum = Dry(c.Vellum)
	return c.Parish, c.letterTo(to), api.OK
}

// Receive takes a letter, and returns the ones that are sent then.
func Receive(p api.Parish, l api.Letter) (api.Parish, []api.Letter, api.Errno) {
	c, e := change(p)
	if e := basic.First(e, checkLetter(l, p.Me)); e != api.OK {
		return api.Parish{}, nil, e
	}
	if l.First <= c.Taken[l.From] {
		if e := c.write(l.Records...); e != api.OK {
			return api.Parish{}, nil, e
		}
		c.Taken[l.From] = min(max(c.Taken[l.From], l.First+len(l.Records)), api.MaxRecords)
	}
	c.Heard[l.From] = l.Seen
	c.Vellum = Dry(c.Vellum)
	var back []api.Letter
	if len(c.Log) > l.Seen || len(l.Records) > 0 {
		back = append(back, c.letterTo(l.From))
	}
	return c.Parish, back, api.OK
}

// Restart returns a parish behind a flood.
func Restart(p api.Parish, picks []int) (api.Parish, api.Errno) {
	if e := checkParish(p); e != api.OK {
		return api.Parish{}, e
	}
	v, log := Open(Flood(p.Vellum, picks))
	return api.Parish{Me: p.Me, Vellum: v, Log: log}, api.OK
}

// changed is a parish that is being changed.
type changed struct{ api.Parish }

// change returns a parish that can be changed, and shares no memory with p; or ErrParish.
func change(p api.Parish) (changed, api.Errno) {
	if e := checkParish(p); e != api.OK {
		return changed{}, e
	}
	p.Vellum.Sheets, p.Log = slices.Clone(p.Vellum.Sheets), slices.Clone(p.Log)
	return changed{p}, api.OK
}

// write writes records, one after the other, up to the first one that has an error.
func (c *changed) write(l ...api.Record) api.Errno {
	for _, r := range l {
		v, log, e := Write(c.Vellum, c.Log, r)
		if e != api.OK {
			return e
		}
		c.Vellum, c.Log = v, log
	}
	return api.OK
}

// letterTo returns the letter to another parish.
func (c *changed) letterTo(to int) api.Letter {
	first := min(c.Heard[to], len(c.Log))
	behind := min(first+api.MaxCarry, len(c.Log))
	return api.Letter{From: c.Me, To: to, First: first, Seen: c.Taken[to], Records: slices.Clone(c.Log[first:behind])}
}

func checkParish(p api.Parish) api.Errno {
	ok := basic.IsParish(p.Me) && basic.AreAll(p.Taken[:], isCount) && basic.AreAll(p.Heard[:], isCount) &&
		CheckVellum(p.Vellum, p.Log) == api.OK
	return basic.Verdict(ok, api.ErrParish)
}

// checkLetter returns ErrLetter if a letter is not valid, or is not one to a parish.
func checkLetter(l api.Letter, to int) api.Errno {
	ok := basic.IsParish(l.From) && basic.IsParish(l.To) && l.From != l.To && l.To == to &&
		isCount(l.First) && isCount(l.Seen) && len(l.Records) <= api.MaxCarry &&
		basic.AreAll(l.Records, func(r api.Record) bool { return CheckRecord(r) == api.OK })
	return basic.Verdict(ok, api.ErrLetter)
}

// isCount reports whether a number may be one of the records of a log.
func isCount(n int) bool { return basic.Within(n, 0, api.MaxRecords) }
