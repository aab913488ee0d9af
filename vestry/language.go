package vestry

import (
	"slices"
	"strings"

	"parvise/api"
	"parvise/basic"
)

const maxDigits = 10 // of a number in a command

// Parse reads a line.
func Parse(line string) (api.Command, int, api.Errno) {
	if len(line) > api.MaxLine {
		return api.Command{}, 0, api.ErrLong
	}
	words := basic.Words(line)
	if len(words) == 0 {
		return api.Command{}, 0, api.ErrWords
	}
	f, is := findForm(func(f form) bool { return f.word == words[0] })
	if !is {
		return api.Command{}, 0, api.ErrWords
	}
	var args []int
	for i, word := range words[1:] {
		n, ok := numberOf(word)
		if !ok || i >= f.many() {
			return api.Command{}, i + 1, api.ErrWords
		}
		args = append(args, n)
	}
	if len(args) < f.many() {
		return api.Command{}, len(words), api.ErrWords
	}
	return api.Command{Kind: f.kind, Args: args}, 0, api.OK
}

// Print returns the line of a command.
func Print(c api.Command) (string, api.Errno) {
	f, e := formOf(c)
	if e != api.OK {
		return "", e
	}
	return basic.Phrase(f.word, c.Args...), api.OK
}

// numberOf returns the number that a word is, and whether it is one of a command.
func numberOf(word string) (int, bool) {
	digits, less := strings.CutPrefix(word, "-")
	n, ok := basic.Number(digits, maxDigits)
	if less {
		ok = ok && n > 0
		n = -n
	}
	return n, ok && isNumber(n)
}

// isNumber reports whether a number may be one of a command.
func isNumber(n int) bool { return basic.Within(n, -api.MaxNumber, api.MaxNumber) }

// formOf returns how a right command is written, or ErrWords.
func formOf(c api.Command) (form, api.Errno) {
	f, is := findForm(func(f form) bool { return f.kind == c.Kind })
	if !is || len(c.Args) != f.many() || !basic.AreAll(c.Args, isNumber) {
		return form{}, api.ErrWords
	}
	return f, api.OK
}

// findForm returns the first form that is such a one.
func findForm(is func(form) bool) (form, bool) {
	for _, forms := range []func() []form{settingForms, recordForms, carrierForms, queryForms} {
		l := forms()
		if at := slices.IndexFunc(l, is); at >= 0 {
			return l[at], true
		}
	}
	return form{}, false
}

// form is how the commands of a kind are written.
type form struct {
	kind    int
	word    string
	numbers string // what they are, in order
}

// many returns how many numbers a command has.
func (f form) many() int { return len(basic.Words(f.numbers)) }

// hasParish reports whether the first number of a command is a parish.
func (f form) hasParish() bool { return strings.HasPrefix(f.numbers, "PARISH") }

func settingForms() []form {
	return []form{
		{api.CmdPaper, "paper", "ID LEAVES"},
		{api.CmdRule, "rule", "FROM DAILY LEAF"},
		{api.CmdHoles, "holes", "N"},
		{api.CmdShelve, "shelve", "PAPER"},
		{api.CmdCopy, "copy", "ID WORD WORD WORD WORD WORD WORD"},
		{api.CmdCosts, "costs", "LOSE GAIN LIKE TURN"},
		{api.CmdNever, "never", "FROM TO"},
		{api.CmdStray, "stray", "ID PAPER FIRST CATCH HOLES UNSURE"},
		{api.CmdSew, "sew", "FROM TO"},
		{api.CmdClear, "clear", ""},
	}
}

func recordForms() []form {
	return []form{
		{api.CmdDeed, "deed", "PARISH DAY KNOWN KIND LOCK PERSON LO HI"},
		{api.CmdReceipt, "receipt", "PARISH DAY KNOWN BORROWER PAPER LEAF MANY"},
		{api.CmdReturn, "return", "PARISH DAY KNOWN RECEIPT PERSON LEAF MANY LO HI"},
		{api.CmdSight, "sight", "PARISH DAY KNOWN PERSON PAPER LEAF"},
		{api.CmdGlimpse, "glimpse", "PARISH DAY KNOWN HOLE MARK MARK MARK"},
		{api.CmdOpening, "opening", "PARISH DAY KNOWN REGISTER THROUGH PERSON PERSON PERSON IN IN OUT OUT"},
		{api.CmdLent, "lent", "PARISH DAY KNOWN BORROWER PAPER DUE LEAVES"},
		{api.CmdBack, "back", "PARISH DAY KNOWN LOAN LEAVES LO HI"},
		{api.CmdAsking, "asking", "PARISH DAY KNOWN LOAN"},
		{api.CmdPayment, "payment", "PARISH DAY KNOWN LOAN PENCE"},
		{api.CmdSurety, "surety", "PARISH DAY KNOWN LOAN PERSON WORTH"},
		{api.CmdWithdraw, "withdraw", "PARISH KNOWN NO"},
	}
}

func carrierForms() []form {
	return []form{
		{api.CmdSend, "send", "PARISH TO"},
		{api.CmdDeliver, "deliver", "N"},
		{api.CmdLose, "lose", "N"},
		{api.CmdDouble, "double", "N"},
		{api.CmdFlood, "flood", "PARISH N N N N N N"},
		{api.CmdRenew, "renew", "PARISH"},
		{api.CmdGive, "give", "PARISH PAPER TO"},
		{api.CmdWrite, "write", "PARISH"},
		{api.CmdDry, "dry", "PARISH"},
		{api.CmdSoak, "soak", "PARISH N"},
		{api.CmdPack, "pack", "PARISH TO"},
		{api.CmdOpen, "open", "N"},
		{api.CmdDrop, "drop", "N"},
		{api.CmdTwice, "twice", "N"},
	}
}

func queryForms() []form {
	return []form{
		{api.CmdHolder, "holder", "PARISH LOCK DAY KNOWN"},
		{api.CmdHand, "hand", "PARISH LOCK DAY KNOWN"},
		{api.CmdOffice, "office", "PARISH PERSON DAY KNOWN"},
		{api.CmdLawful, "lawful", "PARISH PERSON PERSON PERSON DAY KNOWN"},
		{api.CmdOpeners, "openers", "PARISH DAY KNOWN"},
		{api.CmdWhere, "where", "PARISH PAPER LEAF DAY KNOWN"},
		{api.CmdWhole, "whole", "PARISH PAPER DAY KNOWN"},
		{api.CmdDays, "days", "PARISH SOURCE KNOWN"},
		{api.CmdHas, "has", "PARISH PERSON DAY KNOWN"},
		{api.CmdClash, "clash", "PARISH KNOWN"},
		{api.CmdLies, "lies", "PARISH PAPER HOLE KNOWN"},
		{api.CmdHole, "hole", "PARISH PAPER KNOWN"},
		{api.CmdSure, "sure", "PARISH KNOWN"},
		{api.CmdLook, "look", "PARISH PAPER KNOWN"},
		{api.CmdMisread, "misread", "PARISH KNOWN"},
		{api.CmdFewest, "fewest", ""},
		{api.CmdParent, "parent", "FROM TO"},
		{api.CmdRoots, "roots", ""},
		{api.CmdAgreed, "agreed", ""},
		{api.CmdPedigree, "pedigree", ""},
		{api.CmdProve, "prove", ""},
		{api.CmdOrder, "order", "PAPER"},
		{api.CmdOrders, "orders", "PAPER"},
		{api.CmdNext, "next", "PAPER"},
		{api.CmdPlace, "place", "ID"},
		{api.CmdDoubt, "doubt", "PARISH KNOWN"},
		{api.CmdTrue, "true", "PARISH SOURCE KNOWN"},
		{api.CmdInside, "inside", "PARISH PAPER DAY KNOWN"},
		{api.CmdUnlawful, "unlawful", "PARISH KNOWN"},
		{api.CmdContent, "content", "PARISH DAY KNOWN"},
		{api.CmdFine, "fine", "PARISH LOAN KNOWN"},
		{api.CmdOwed, "owed", "PARISH LOAN KNOWN"},
		{api.CmdShares, "shares", "PARISH LOAN KNOWN"},
		{api.CmdOverdue, "overdue", "PARISH KNOWN"},
		{api.CmdHolds, "holds", "PARISH"},
		{api.CmdAt, "at", "PAPER"},
		{api.CmdCarried, "carried", "PAPER"},
		{api.CmdRecords, "records", ""},
	}
}
