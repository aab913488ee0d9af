package vellum_test

import (
	"fmt"
	"math/rand/v2"
	"regexp"
	"slices"
	"strconv"
	"strings"
	"testing"

	"parvise/api"
	"parvise/vellum"
)

// Here the chapter's terms are read once more, in the plainest way, without regard to time.

// plainSum is the sum of a text on a sheet, with an index.
func plainSum(sheet, index int, text string) int {
	sum := (131*sheet + 17*index + 1) % 9973
	for i := range len(text) {
		sum = (257*sum + int(text[i]) + 1) % 9973
	}
	return sum
}

func plainText(r api.Record) string {
	return fmt.Sprintf("%d %d %d %d %d %d %d %s", r.At.Parish, r.At.No, r.Kind, r.Day, r.Known, r.Of.Parish, r.Of.No, r.Text)
}

const plainNumber = `(0|[1-9][0-9]*) `

var textForm = regexp.MustCompile(`^` + strings.Repeat(plainNumber, 7) + `([ -}]{0,160})$`)

// plainRecord is the valid record of a text, if there is one.
func plainRecord(text string) (api.Record, bool) {
	m := textForm.FindStringSubmatch(text)
	if m == nil {
		return api.Record{}, false
	}
	var n [7]int
	for i := range n {
		var e error
		if n[i], e = strconv.Atoi(m[i+1]); e != nil {
			return api.Record{}, false
		}
	}
	r := api.Record{At: item(n[0], n[1]), Kind: n[2], Day: n[3], Known: n[4], Of: item(n[5], n[6]), Text: m[8]}
	return r, plainValid(r)
}

func plainValid(r api.Record) bool {
	in := func(n, lo, hi int) bool { return lo <= n && n <= hi }
	if !in(r.At.Parish, 0, 5) || !in(r.At.No, 0, 9999) || !in(r.Kind, 0, 60) || !in(r.Day, 0, 100000) || !in(r.Known, 0, 100000) || len(r.Text) > 160 {
		return false
	}
	for i := range len(r.Text) {
		if !in(int(r.Text[i]), 0x20, 0x7D) {
			return false
		}
	}
	if r.Kind == 0 {
		return r.Day == 0 && r.Text == "" && r.Of.Parish == r.At.Parish && in(r.Of.No, 0, 9999) && r.Of.No < r.At.No
	}
	return r.Of.Parish == 0 && r.Of.No == 0
}

func plainLog(l []api.Record) bool {
	for i, r := range l {
		if !plainValid(r) || r.At.No != ofParish(l[:i], r.At.Parish) {
			return false
		}
	}
	return len(l) <= 60
}

// plainTexts are the texts on a sheet that begins with the first k records of a log.
func plainTexts(sheet, k int, log []api.Record) []string {
	texts := []string{fmt.Sprintf("sheet %d %d", sheet, k)}
	for i, r := range log {
		if i == k {
			texts = append(texts, "begun")
		}
		texts = append(texts, plainText(r))
	}
	if k == len(log) {
		texts = append(texts, "begun")
	}
	return texts
}

func plainSheet(sheet, k int, log []api.Record) string {
	return lines(sheet, plainTexts(sheet, k, log)...)
}

// plainScan tries each number of records with which a sheet may begin.
func plainScan(s api.Sheet) ([]api.Record, bool) {
	if s.No < 1 || s.No > 99999 {
		return nil, false
	}
	all := strings.SplitAfter(s.Dry+s.Wet, "\n")
	all = all[:len(all)-1]
	for k := 0; k <= 60 && k+2 <= len(all); k++ {
		if log, whole := plainBeginning(s.No, k, all); whole {
			return plainRest(s.No, k, all, log), true
		}
	}
	return nil, false
}

// plainBeginning is what a sheet has that begins with k records, if it does.
func plainBeginning(sheet, k int, all []string) ([]api.Record, bool) {
	var log []api.Record
	for _, line := range all[1 : 1+k] {
		_, text, _ := strings.Cut(strings.TrimSuffix(line, "\n"), " ")
		r, ok := plainRecord(text)
		if !ok {
			return nil, false
		}
		log = append(log, r)
	}
	whole := plainLog(log) && strings.Join(all[:k+2], "") == plainSheet(sheet, k, log)
	return log, whole
}

// plainRest adds what follows the beginning, as long as it is right.
func plainRest(sheet, k int, all []string, log []api.Record) []api.Record {
	for i := k + 2; i < len(all); i++ {
		_, text, _ := strings.Cut(strings.TrimSuffix(all[i], "\n"), " ")
		r, ok := plainRecord(text)
		if !ok || all[i] != line(sheet, i, text) || !plainLog(append(slices.Clone(log), r)) {
			break
		}
		log = append(log, r)
	}
	return log
}

// plainHas tries all numbers of records with which the sheets may begin.
func plainHas(v api.Vellum, log []api.Record) bool {
	if len(v.Sheets) < 1 || len(v.Sheets) > 4 || !plainLog(log) {
		return false
	}
	for i, s := range v.Sheets {
		if s.No < 1 || s.No > 99999 || i > 0 && s.No != v.Sheets[i-1].No+1 {
			return false
		}
	}
	var has func(i, end int) bool
	has = func(i, end int) bool {
		if i < 0 {
			return true
		}
		for k := range end + 1 {
			s := v.Sheets[i]
			if s.Dry+s.Wet == plainSheet(s.No, k, log[:end]) && has(i-1, k) {
				return true
			}
		}
		return false
	}
	return has(len(v.Sheets)-1, len(log))
}

// plainOpen takes the sheets one by one, by their numbers.
func plainOpen(v api.Vellum) (api.Vellum, []api.Record) {
	for no := 99999; no >= 1; no-- {
		for _, s := range slices.Backward(v.Sheets) {
			if s.No != no {
				continue
			}
			if log, whole := plainScan(s); whole {
				return sheets(api.Sheet{No: no, Dry: plainSheet(no, len(log), log)}), log
			}
		}
	}
	return sheets(api.Sheet{No: 1, Dry: plainSheet(1, 0, nil)}), nil
}

// plainStands reports whether a record stands, as known on a day.
func plainStands(b api.Book, at api.Item, known int) bool {
	for _, r := range b.Records {
		if r.Kind == 0 && r.Known <= known && r.Of == at && plainStands(b, r.At, known) {
			return false
		}
	}
	return true
}

// someVellum returns vellum as it may be made, and its log: some of its ink is dry, also in the midst of a line.
func someVellum(r *rand.Rand) (api.Vellum, []api.Record) {
	log := someLog(r, r.IntN(7))
	end := len(log)
	no := 1 + r.IntN(5)
	var l []api.Sheet
	for i := range 1 + r.IntN(api.MaxSheets) {
		k := r.IntN(end + 1)
		text := plainSheet(no+9-i, k, log[:end])
		dry := []int{0, len(text), r.IntN(len(text) + 1)}[r.IntN(3)]
		l = append(l, api.Sheet{No: no + 9 - i, Dry: text[:dry], Wet: text[dry:]})
		end = k
	}
	slices.Reverse(l)
	return api.Vellum{Sheets: l}, log
}

// spoilt returns vellum that is changed in one way or another.
func spoilt(r *rand.Rand, v api.Vellum, log []api.Record) api.Vellum {
	l := slices.Clone(v.Sheets)
	s := &l[r.IntN(len(l))]
	switch r.IntN(9) {
	case 0:
		s.No += r.IntN(5) - 2
	case 1:
		s.Wet = ""
	case 2:
		s.Dry = ""
	case 3:
		s.Wet += []string{"\n", "x", "0 ", line(s.No, len(log)+2, plainText(someNext(r, log, 6)))}[r.IntN(4)]
	case 4:
		if s.Wet != "" {
			s.Wet = s.Wet[:len(s.Wet)-1]
		}
	case 5:
		text := []byte(s.Dry + s.Wet)
		if len(text) > 0 {
			text[r.IntN(len(text))] = []byte("~0 9\n")[r.IntN(5)]
		}
		s.Dry, s.Wet = string(text), ""
	case 6:
		l = append(l, l[r.IntN(len(l))])
	case 7:
		l = slices.Delete(l, 0, 1)
	case 8:
		slices.Reverse(l)
	}
	return api.Vellum{Sheets: l}
}

// TestP81Oracle holds what is read on vellum, right and wrong, against the plain reading.
func TestP81Oracle(t *testing.T) {
	has, hasNot, whole, notWhole, lost := 0, 0, 0, 0, 0
	eachSeed(t, 811, 6000, func(r *rand.Rand) {
		v, log := someVellum(r)
		for range r.IntN(3) {
			if len(v.Sheets) > 0 {
				v = spoilt(r, v, log)
			}
		}
		e := vellum.CheckVellum(v, log)
		expect(t, "CheckVellum", results(e), verdict(plainHas(v, log), api.ErrVellum))
		if e == api.OK {
			has++
		} else {
			hasNot++
		}
		for _, s := range v.Sheets {
			got, is := vellum.Scan(s)
			want, isPlain := plainScan(s)
			expect(t, "Scan", results(got, is), want, isPlain)
			if is {
				whole++
			} else {
				notWhole++
			}
		}
		opened, got := vellum.Open(v)
		want, wantLog := plainOpen(v)
		expect(t, "Open", results(opened, got), want, wantLog)
		if len(got) < len(log) {
			lost++
		}
	})
	if min(has, hasNot, whole, notWhole, lost) < 500 {
		t.Errorf("just %d have the log, %d have not, %d sheets are whole, %d are not, %d lost", has, hasNot, whole, notWhole, lost)
	}
}

// TestP81OtherLog asks whether vellum has a log that differs a bit.
func TestP81OtherLog(t *testing.T) {
	eachSeed(t, 812, 1000, func(r *rand.Rand) {
		v, log := someVellum(r)
		expect(t, "CheckVellum", results(vellum.CheckVellum(v, log)), api.OK)
		others := [][]api.Record{append(slices.Clone(log), someNext(r, log, 6))}
		for i := range log {
			others = append(others, log[:i], slices.Delete(slices.Clone(log), i, i+1))
			other := slices.Clone(log)
			other[i].Known++
			others = append(others, other)
			other = slices.Clone(log)
			slices.Reverse(other[i:])
			others = append(others, other)
		}
		for _, other := range others {
			expect(t, fmt.Sprint("CheckVellum with ", other), results(vellum.CheckVellum(v, other)), verdict(slices.Equal(other, log), api.ErrVellum))
		}
	})
}

// TestP81PlainStanding holds Standing against the term itself.
func TestP81PlainStanding(t *testing.T) {
	again, late := 0, 0
	eachSeed(t, 813, 3000, func(r *rand.Rand) {
		b, e := vellum.Sorted(someLog(r, r.IntN(14)))
		expect(t, "Sorted", results(e), api.OK)
		for known := range 7 {
			var want []api.Record
			for _, x := range b.Records {
				if x.Kind != 0 && x.Known <= known && plainStands(b, x.At, known) {
					want = append(want, x)
				}
			}
			expect(t, fmt.Sprint("Standing ", known), results(vellum.Standing(b, known)), want, api.OK)
			for _, x := range want {
				named := slices.ContainsFunc(b.Records, func(w api.Record) bool { return w.Kind == 0 && w.Of == x.At && w.Known <= known })
				later := slices.ContainsFunc(b.Records, func(w api.Record) bool { return w.Kind == 0 && w.Of == x.At && w.Known > known })
				if named {
					again++
				}
				if later {
					late++
				}
			}
		}
	})
	if min(again, late) < 100 {
		t.Errorf("just %d stand again, %d stand yet", again, late)
	}
}

// TestP81PlainDecode holds Decode against the plain reading of texts that are nearly right.
func TestP81PlainDecode(t *testing.T) {
	right, wrong := 0, 0
	eachSeed(t, 814, 20000, func(r *rand.Rand) {
		text := []byte(plainText(someRecord(r, r.IntN(6), r.IntN(30))))
		for range 1 + r.IntN(2) {
			at := r.IntN(len(text))
			switch r.IntN(3) {
			case 0:
				text = slices.Delete(text, at, at+1)
			case 1:
				text = slices.Insert(text, at, "0129 -+~\n\x7f"[r.IntN(10)])
			case 2:
				text[at] = "0129 -+~\n\x1f"[r.IntN(10)]
			}
		}
		want, ok := plainRecord(string(text))
		if !ok {
			want = api.Record{}
			wrong++
		} else {
			right++
			again, e := vellum.Encode(want)
			expect(t, "Encode of Decode", results(again, e), string(text), api.OK)
		}
		expect(t, fmt.Sprintf("Decode of %q", text), results(vellum.Decode(string(text))), want, verdict(ok, api.ErrText))
	})
	if min(right, wrong) < 1000 {
		t.Errorf("just %d right, %d wrong", right, wrong)
	}
}
