package vellum

import (
	"iter"
	"slices"
	"strconv"
	"strings"

	"parvise/api"
	"parvise/basic"
)

const (
	sheetWord  = "sheet"
	begunWord  = "begun"
	maxLine    = 9999
	maxWritten = 240 // bytes of a text on a sheet
)

// Line returns a line of a sheet.
func Line(sheet, line int, text string) (string, api.Errno) {
	e := basic.First(checkSheet(sheet),
		basic.Verdict(basic.Within(line, 0, maxLine), api.ErrArg),
		basic.Verdict(isText(text, maxWritten), api.ErrText))
	if e != api.OK {
		return "", e
	}
	return inked(number(sheet).sum, line, text), api.OK
}

// Begin returns the lines with which a sheet begins that has records.
func Begin(sheet int, log []api.Record) (string, api.Errno) {
	if e := basic.First(checkSheet(sheet), basic.Verdict(isLog(log), api.ErrRecord)); e != api.OK {
		return "", e
	}
	return begun(sheet, log).Dry, api.OK
}

// Scan returns the records that can be read on a sheet, and whether its beginning is whole.
func Scan(s api.Sheet) ([]api.Record, bool) {
	p := read(s)
	return p.log, p.whole
}

// number is that of a sheet.
type number int

// sum returns the sum of a text with an index on the sheet.
func (n number) sum(index int, text string) int {
	return basic.Sum((131*int(n)+17*index+1)%api.SumOf, api.SumOf, text)
}

// sums tells the sums of the texts on a sheet.
type sums func(index int, text string) int

// inked returns the lines of texts, the first one of which has an index.
func inked(sum sums, index int, texts ...string) string {
	var lines strings.Builder
	for i, text := range texts {
		lines.WriteString(strconv.Itoa(sum(index+i, text)) + " " + text + "\n")
	}
	return lines.String()
}

// written returns a sheet, all of it dry, that begins with the first k records of a log, and then has the others.
func written(sheet, k int, log []api.Record) api.Sheet {
	texts := []string{basic.Phrase(sheetWord, sheet, k)}
	for _, r := range log {
		texts = append(texts, textOf(r))
	}
	texts = slices.Insert(texts, 1+k, begunWord)
	return api.Sheet{No: sheet, Dry: inked(number(sheet).sum, 0, texts...)}
}

// begun returns a sheet, all of it dry, that begins with all records of a log.
func begun(sheet int, log []api.Record) api.Sheet { return written(sheet, len(log), log) }

// dried returns a sheet whose ink is dry.
func dried(s api.Sheet) api.Sheet { return api.Sheet{No: s.No, Dry: s.Dry + s.Wet} }

// textsOn yields the texts of the lines of a sheet, with their indices, up to the first line whose sum is wrong.
func textsOn(s api.Sheet) iter.Seq2[int, string] {
	sum := number(s.No).sum
	return func(yield func(int, string) bool) {
		rest := dried(s).Dry
		for index := 0; ; index++ {
			line, behind, ended := strings.Cut(rest, "\n")
			_, text, _ := strings.Cut(line, " ")
			if !ended || line+"\n" != inked(sum, index, text) || !yield(index, text) {
				return
			}
			rest = behind
		}
	}
}

// page is what is read on a sheet.
type page struct {
	sheet int
	begun int // with how many records it begins
	whole bool
	log   []api.Record
}

// read returns what is read on a sheet: nothing, if its beginning is not whole.
func read(s api.Sheet) page {
	p := page{sheet: s.No}
	if checkSheet(s.No) == api.OK {
		p.takeAll(s)
	}
	if !p.whole {
		return page{}
	}
	return p
}

// takeAll reads the lines of a sheet up to the first one that is wrong.
func (p *page) takeAll(s api.Sheet) {
	defer func() {
		// What was read ahead of a line that is wrong stays.
		_ = recover()
	}()
	for index, text := range textsOn(s) {
		p.take(index, text)
	}
}

// take reads the text of the next line; if it may not be there, the reading is left.
func (p *page) take(index int, text string) {
	switch index {
	case 0:
		p.begun = headOf(p.sheet, text)
	case 1 + p.begun:
		must(text == begunWord)
		p.whole = true
	default:
		r := recordOf(text)
		must(isNext(p.log, r))
		p.log = append(p.log, r)
	}
}

// headOf returns with how many records a sheet begins, by the text of its first line.
func headOf(sheet int, text string) int {
	many, ok := strings.CutPrefix(text, basic.Phrase(sheetWord, sheet)+" ")
	must(ok)
	n, ok := basic.Number(many, maxDigits)
	must(ok)
	return n
}

func checkSheet(sheet int) api.Errno {
	return basic.Verdict(basic.IsSource(sheet), api.ErrSheet)
}
