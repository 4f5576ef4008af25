package leaplist

import (
	library "crypto/sha1"
	"fmt"
	"regexp"
	"slices"
	"strconv"
	"strings"
	"testing"
	"time"

	"horologe/api"
	"horologe/leap"
	"horologe/sha1"
)

const (
	most = 1 << 40 // the greatest time
	head = "#$ 1\n#@ 2\n"
)

// random makes numbers that look random, the same in each run.
type random uint64

func (r *random) next() uint64 {
	*r ^= *r << 13
	*r ^= *r >> 7
	*r ^= *r << 17
	return uint64(*r)
}

// below is a number from 0 to n - 1.
func (r *random) below(n int) int {
	return int(r.next() % uint64(n))
}

// pick is one of some words.
func (r *random) pick(words ...string) string {
	return words[r.below(len(words))]
}

// table is a random table; a third of the rows behind the first take a second away.
func (r *random) table(t *testing.T, many int) *leap.Table {
	t.Helper()
	var rows []leap.Row
	month, offset := r.below(600), r.below(1001)
	for range many {
		rows = append(rows, leap.Row{Day: start(1900, month+1), Offset: offset})
		month += 1 + r.below(12)*r.below(3)
		if offset == 0 || offset < 1000 && r.below(3) > 0 {
			offset++
		} else {
			offset--
		}
	}
	return made(t, rows, int64(r.next()%(1<<r.below(41))), int64(r.next()%(1<<r.below(41))))
}

// dressed is a text of a table that Put wouldn't write: with other whitespace, comments, zeros, and order of lines.
func (r *random) dressed(x *leap.Table) string {
	gap := func() string { return r.pick(" ", "\t", "  ", " \t", "\t ", " \t \t") }
	free := func() string { return r.pick("", "", gap()) }
	long := func(n int64) string { return fmt.Sprintf(r.pick("%d", "%d", "%013d"), n) }
	lines := []string{"#$" + gap() + long(x.Updated()) + free(), "#@" + gap() + long(x.Expires()) + free()}
	if r.below(2) == 0 {
		line := "#h"
		for _, w := range sha1.Words(digest(x.Rows(), x.Updated(), x.Expires())) {
			line += gap() + r.pick(fmt.Sprintf("%x", w), fmt.Sprintf("%X", w), fmt.Sprintf("%08x", w), fmt.Sprintf("%08X", w))
		}
		lines = append(lines, line+free())
	}
	for i := range lines {
		k := r.below(i + 1)
		lines[i], lines[k] = lines[k], lines[i]
	}
	place := 0
	for _, w := range x.Rows() {
		offset := fmt.Sprintf(r.pick("%d", "%d", "%04d"), w.Offset)
		row := free() + long((w.Day+25567)*86400) + gap() + offset + r.pick("", gap(), gap()+"#", gap()+"# 1 Jan", gap()+"#\xff\x00#")
		place += r.below(len(lines) - place + 1)
		lines = slices.Insert(lines, place, row)
		place++
	}
	for range r.below(4) {
		lines = slices.Insert(lines, r.below(len(lines)+1), r.pick("", " ", "\t ", "#", "# $ 5", "#\t@ 7", "#H 1 2", "##", "#\x00", "#1 2"))
	}
	return strings.Join(lines, "\n") + r.pick("", "\n", "\n\n", "\n \t")
}

// start is the number of a month's first day, by the library; months may be more than 12.
func start(year, month int) int64 {
	return time.Date(year, time.Month(month), 1, 0, 0, 0, 0, time.UTC).Unix() / 86400
}

// made is a table of rows, of which New must find no error.
func made(t *testing.T, rows []leap.Row, updated, expires int64) *leap.Table {
	t.Helper()
	x, err := leap.New(rows, updated, expires)
	if err != nil {
		t.Fatalf("New of %v, %d, %d: %v", rows, updated, expires, err)
	}
	return x
}

// parsed is a text's table, in which Parse must find no error.
func parsed(t *testing.T, text string) *leap.Table {
	t.Helper()
	x, err := Parse(text)
	if err != nil || x == nil {
		t.Fatalf("Parse of %q: %v, %v", text, x, err)
	}
	return x
}

// history is the leap seconds that there were from 1972 to 2017.
func history() []leap.Row {
	starts := []int64{
		start(1972, 1), start(1972, 7), start(1973, 1), start(1974, 1), start(1975, 1), start(1976, 1), start(1977, 1),
		start(1978, 1), start(1979, 1), start(1980, 1), start(1981, 7), start(1982, 7), start(1983, 7), start(1985, 7),
		start(1988, 1), start(1990, 1), start(1991, 1), start(1992, 7), start(1993, 7), start(1994, 7), start(1996, 1),
		start(1997, 7), start(1999, 1), start(2006, 1), start(2009, 1), start(2012, 7), start(2015, 7), start(2017, 1),
	}
	rows := make([]leap.Row, len(starts))
	for i, n := range starts {
		rows[i] = leap.Row{Day: n, Offset: 10 + i}
	}
	return rows
}

// months are rows for consecutive months, as far in the future as they may be.
func months(many int) []leap.Row {
	rows := make([]leap.Row, many)
	for i := range rows {
		rows[i] = leap.Row{Day: start(9999, 13-many+i), Offset: 1000 - i%2}
	}
	return rows
}

// tables are tables at the ends of what they may be, and random ones.
func tables(t *testing.T, many int) []*leap.Table {
	t.Helper()
	list := []*leap.Table{
		made(t, history(), 3676924800, 3928521600),
		made(t, months(256), most, most),
		made(t, []leap.Row{{Day: start(1900, 1), Offset: 0}}, 0, 0),
		made(t, []leap.Row{{Day: start(1900, 1), Offset: 1000}}, most, 0),
		made(t, []leap.Row{{Day: start(9999, 12), Offset: 0}}, 0, most),
		made(t, []leap.Row{{Day: start(1969, 12), Offset: 2}, {Day: 0, Offset: 1}, {Day: start(1970, 2), Offset: 0}}, 5, 5),
	}
	r := random(11)
	for range many {
		list = append(list, r.table(t, 1+r.below(12)))
	}
	return append(list, r.table(t, 256))
}

// digest is Digest by the chapter's sentence and the library.
func digest(rows []leap.Row, updated, expires int64) sha1.Digest {
	text := fmt.Sprint(updated) + fmt.Sprint(expires)
	for _, r := range rows {
		text += fmt.Sprint((r.Day+25567)*86400) + fmt.Sprint(r.Offset)
	}
	return library.Sum([]byte(text))
}

// written is Put by the chapter's sentence and the library.
func written(x *leap.Table) string {
	text := fmt.Sprintf("#$\t%d\n#@\t%d\n", x.Updated(), x.Expires())
	for _, r := range x.Rows() {
		text += fmt.Sprintf("%d\t%d\n", (r.Day+25567)*86400, r.Offset)
	}
	d := digest(x.Rows(), x.Updated(), x.Expires())
	return text + fmt.Sprintf("#h %x %x %x %x %x\n", d[:4], d[4:8], d[8:12], d[12:16], d[16:])
}

// The forms of lines, by the chapter's sentences.
var (
	emptyForm   = regexp.MustCompile(`\A[ \t]*\z`)
	createdForm = regexp.MustCompile(`\A#\$[ \t]+([0-9]{1,13})[ \t]*\z`)
	expiryForm  = regexp.MustCompile(`\A#@[ \t]+([0-9]{1,13})[ \t]*\z`)
	digestForm  = regexp.MustCompile(`\A#h[ \t]+([0-9a-fA-F]{1,8})[ \t]+([0-9a-fA-F]{1,8})[ \t]+([0-9a-fA-F]{1,8})[ \t]+([0-9a-fA-F]{1,8})[ \t]+([0-9a-fA-F]{1,8})[ \t]*\z`)
	wrongForm   = regexp.MustCompile(`\A#[$@h]`)
	commentForm = regexp.MustCompile(`\A#`)
	rowForm     = regexp.MustCompile(`\A[ \t]*([0-9]{1,13})[ \t]+([0-9]{1,4})([ \t]*|[ \t]+#(?s:.*))\z`)
)

// model is what the chapter's sentences say of a text: its table, or its error with the number of a line.
type model struct {
	table *leap.Table
	err   error
	fault int
}

// modelOf is the model of a text.
func modelOf(text string) model {
	if len(text) > 65535 {
		return model{err: api.ErrLong}
	}
	var times [2][]int64
	var digests []sha1.Digest
	var rows []leap.Row
	lines := strings.Split(text, "\n")
	for i, line := range lines {
		wrong := error(nil)
		if m := createdForm.FindStringSubmatch(line); m != nil {
			times[0] = append(times[0], number(m[1]))
		} else if m := expiryForm.FindStringSubmatch(line); m != nil {
			times[1] = append(times[1], number(m[1]))
		} else if m := digestForm.FindStringSubmatch(line); m != nil {
			digests = append(digests, hexadecimal(m[1:]))
		} else if m := rowForm.FindStringSubmatch(line); m != nil {
			rows = append(rows, leap.Row{Day: number(m[1])/86400 - 25567, Offset: int(number(m[2]))})
			if number(m[1])%86400 != 0 {
				wrong = api.ErrRange
			}
		} else if wrongForm.MatchString(line) || !commentForm.MatchString(line) && !emptyForm.MatchString(line) {
			wrong = api.ErrForm
		}
		if len(times[0]) > 1 || len(times[1]) > 1 || len(digests) > 1 {
			wrong = api.ErrForm
		}
		if wrong != nil {
			return model{err: wrong, fault: i + 1}
		}
	}
	if len(times[0]) == 0 || len(times[1]) == 0 {
		return model{err: api.ErrForm}
	}
	x, err := leap.New(rows, times[0][0], times[1][0])
	if err == nil && len(digests) == 1 && digests[0] != digest(rows, times[0][0], times[1][0]) {
		return model{err: api.ErrSum}
	}
	return model{x, err, 0}
}

// number is the number of some digits, by the library.
func number(digits string) int64 {
	n, err := strconv.ParseInt(digits, 10, 64)
	if err != nil {
		panic(err)
	}
	return n
}

// hexadecimal is the digest of five words, by the library.
func hexadecimal(words []string) sha1.Digest {
	var w [5]uint32
	for i := range w {
		n, err := strconv.ParseUint(words[i], 16, 32)
		if err != nil {
			panic(err)
		}
		w[i] = uint32(n)
	}
	return sha1.From(w)
}

// check holds Parse, Fault and Put against the model of a text, which it returns.
func check(t *testing.T, text string) model {
	t.Helper()
	want := modelOf(text)
	x, err := Parse(text)
	if err != want.err || !leap.Same(x, want.table) {
		t.Fatalf("Parse of %q: %v, %v; want %v, %v", text, x, err, want.table, want.err)
	}
	if got := Fault(text); got != want.fault {
		t.Fatalf("Fault of %q: %d; want %d", text, got, want.fault)
	}
	if err == nil {
		checkTable(t, x)
	}
	return want
}

// checkTable holds a table's text and its digest against the chapter's sentences, and reads the text back.
func checkTable(t *testing.T, x *leap.Table) {
	t.Helper()
	text, err := Put(x)
	if want := written(x); err != nil || text != want {
		t.Fatalf("Put: %q, %v; want %q", text, err, want)
	}
	d, err := Digest(x)
	if want := digest(x.Rows(), x.Updated(), x.Expires()); err != nil || d != want {
		t.Fatalf("Digest of %q: %x, %v; want %x", text, d, err, want)
	}
	if y, err := Parse(text); err != nil || !leap.Same(x, y) {
		t.Fatalf("Parse of %q: %v, %v", text, y, err)
	}
	if k := Fault(text); k != 0 {
		t.Fatalf("Fault of %q: %d", text, k)
	}
}

// P11.1: the chapter's example.
func TestExample(t *testing.T) {
	x := parsed(t, head+"2272060800\t10")
	if r, _ := x.Row(0); x.Len() != 1 || r != (leap.Row{Day: start(1972, 1), Offset: 10}) || x.Updated() != 1 || x.Expires() != 2 {
		t.Errorf("%v, %d, %d", x.Rows(), x.Updated(), x.Expires())
	}
	const want = "#$\t1\n#@\t2\n2272060800\t10\n#h cb2b9872 16e0d33b 9b0553e1 e4a121fa 83a47e57\n"
	if text, err := Put(x); err != nil || text != want {
		t.Errorf("Put: %q, %v; want %q", text, err, want)
	}
}

// P11.1: digests that were published with these leap seconds.
func TestPublishedDigests(t *testing.T) {
	for _, c := range []struct {
		updated, expires int64
		line             string
	}{
		{3676924800, 3928521600, "#h\t16edd0f0 3666784f 37db6bdd e74ced87 59af48f1"},
		{3929093563, 3960057600, "#h\tbe738595 57b0cf1b b0218343 fb77062f 5a775e7"},
		{3945196800, 3975868800, "#h\t848434d5 570f7ea8 d79ba227 a00fc821 f608e2d4"},
		{3960835200, 3991593600, "#h\t49db2447 571e5e1b 2f002a53 9c8da8e4 39b8e49e"},
	} {
		text := fmt.Sprintf("#\tATOMIC TIME\n#$\t%d\n#\n#@\t%d\n#\n", c.updated, c.expires)
		for _, r := range history() {
			day := time.Unix(r.Day*86400, 0).UTC()
			text += fmt.Sprintf("%d      %d      # %s\n", (r.Day+25567)*86400, r.Offset, day.Format("2 Jan 2006"))
		}
		text += "#\n#\tA hash code\n#\n" + c.line
		x := parsed(t, text)
		if !leap.Same(x, made(t, history(), c.updated, c.expires)) {
			t.Errorf("Parse of %q: %v, %d, %d", text, x.Rows(), x.Updated(), x.Expires())
		}
		check(t, text)
		for _, other := range []string{"#$\t" + strconv.FormatInt(c.updated+1, 10), "#$\t" + strconv.FormatInt(c.expires, 10)} {
			spoilt := strings.Replace(text, fmt.Sprintf("#$\t%d", c.updated), other, 1)
			if x, err := Parse(spoilt); err != api.ErrSum || x != nil {
				t.Errorf("Parse with %s: %v, %v", other, x, err)
			}
		}
	}
}

// P11.1: each kind of line, in its forms and near them, behind lines that are good.
func TestLines(t *testing.T) {
	const row = "\n2272060800 10"
	for _, c := range []struct {
		text  string
		want  error
		fault int
	}{
		// empty lines, and comments
		{"\n \n\t\n \t \t\n#\n#  \n# $ 1\n#\t@ 1\n# h 1\n##$ 1\n#x\n#\x00\xff\n#2272060801 10\n#$\t7\n\n#@ 8" + row, nil, 0},
		{"#S 1\n#H\n#H 1 2 3 4 5\n#H 1 2 3 4 5\n" + head + row, nil, 0},
		{head + row + "\n\r", api.ErrForm, 5},
		{head + row + "\n\v", api.ErrForm, 5},
		{head + row + "\n\u00a0", api.ErrForm, 5},
		{head + row + "\n #", api.ErrForm, 5},
		{head + row + "\n\t# comment", api.ErrForm, 5},
		{head + row + "\nx", api.ErrForm, 5},
		{head + row + "\n;", api.ErrForm, 5},
		{head + row + "\n\x00", api.ErrForm, 5},
		// times
		{"#$ 0\n#@ 0" + row, nil, 0},
		{"#@ 5\n#$ 5" + row, nil, 0},
		{"#$  \t \t0000000000001\t \n#@\t\t2 " + row, nil, 0},
		{"#$ 1\n#@ 1099511627776" + row, nil, 0},
		{"#$ 1\n#@ 1099511627777" + row, api.ErrRange, 0},
		{"#$ 1099511627777\n#@ 1" + row, api.ErrRange, 0},
		{"#$ 9999999999999\n#@ 1" + row, api.ErrRange, 0},
		{"#$ 1\n#@ 00000000000002" + row, api.ErrForm, 2},
		{"#$ 10000000000000\n#@ 2" + row, api.ErrForm, 1},
		{"#$ 99999999999999999999\n#@ 2" + row, api.ErrForm, 1},
		{"#$1\n#@ 2" + row, api.ErrForm, 1},
		{"#$\n#@ 2" + row, api.ErrForm, 1},
		{"#$ \n#@ 2" + row, api.ErrForm, 1},
		{"#$ 1\n#@2" + row, api.ErrForm, 2},
		{"#$ 1\n#@" + row, api.ErrForm, 2},
		{"#$ 1\n#@ x" + row, api.ErrForm, 2},
		{"#$ 1 #\n#@ 2" + row, api.ErrForm, 1},
		{"#$ 1 2\n#@ 2" + row, api.ErrForm, 1},
		{"#$ 1x\n#@ 2" + row, api.ErrForm, 1},
		{"#$ 1\r\n#@ 2" + row, api.ErrForm, 1},
		{"#$ -1\n#@ 2" + row, api.ErrForm, 1},
		{"#$ +1\n#@ 2" + row, api.ErrForm, 1},
		{"#$ 1.\n#@ 2" + row, api.ErrForm, 1},
		{" #$ 1\n#@ 2" + row, api.ErrForm, 1},
		{"# $ 1\n#@ 2" + row, api.ErrForm, 0},
		{"#$x\n" + head + row, api.ErrForm, 1},
		{"#@x\n" + head + row, api.ErrForm, 1},
		{"#@@\n" + head + row, api.ErrForm, 1},
		// the same again
		{head + "#$ 1" + row, api.ErrForm, 3},
		{head + "#$ 9" + row, api.ErrForm, 3},
		{head + row + "\n#@ 2", api.ErrForm, 5},
		{"#$ 0\n#@ 0\n#$ 0" + row, api.ErrForm, 3},
		{"#@ 0\n#@ 0\n#$ 0" + row, api.ErrForm, 2},
		{head + row + "\n#h 0 0 0 0 0\n#h 0 0 0 0 0", api.ErrForm, 6},
		{head + row + "\n#h 0 0 0 0 0\n#h 1 2 3 4 5", api.ErrForm, 6},
		// one is missing
		{"", api.ErrForm, 0},
		{"\n", api.ErrForm, 0},
		{"#", api.ErrForm, 0},
		{"#$ 1", api.ErrForm, 0},
		{"#@ 1", api.ErrForm, 0},
		{"#$ 1" + row, api.ErrForm, 0},
		{"#@ 1" + row, api.ErrForm, 0},
		{"#@ 1" + row + "\n2272060800 12", api.ErrForm, 0},
		{"#@ 1099511627777", api.ErrForm, 0},
		{row[1:], api.ErrForm, 0},
		// digests
		{head + row + "\n#h", api.ErrForm, 5},
		{head + row + "\n#h ", api.ErrForm, 5},
		{head + row + "\n#hash", api.ErrForm, 5},
		{head + row + "\n#h 1 2 3 4", api.ErrForm, 5},
		{head + row + "\n#h 1 2 3 4 ", api.ErrForm, 5},
		{head + row + "\n#h 1 2 3 4 5 6", api.ErrForm, 5},
		{head + row + "\n#h 1 2 3 4 5 #", api.ErrForm, 5},
		{head + row + "\n#h1 2 3 4 5", api.ErrForm, 5},
		{head + row + "\n#h 1 2 3 4 g", api.ErrForm, 5},
		{head + row + "\n#h 1 2 3 4 0x5", api.ErrForm, 5},
		{head + row + "\n#h 1 2 3 4 1_0", api.ErrForm, 5},
		{head + row + "\n#h 1 2 3 4 -5", api.ErrForm, 5},
		{head + row + "\n#h 1 2 3 4 +5", api.ErrForm, 5},
		{head + row + "\n#h 1,2,3,4,5", api.ErrForm, 5},
		{head + row + "\n#h 000000001 2 3 4 5", api.ErrForm, 5},
		{head + row + "\n#h 1 2 3 4 000000005", api.ErrForm, 5},
		{head + row + "\n#h 1 2 3 4 123456789", api.ErrForm, 5},
		{head + row + "\n#h 123456781234567812345678123456781234567 8", api.ErrForm, 5},
		{head + row + "\n#h 1234567812345678123456781234567812345678", api.ErrForm, 5},
		{head + row + "\n#h 1 2 3 4 5", api.ErrSum, 0},
		{head + row + "\n#h \t1 \tabcdef09\t00000000  ABCDEF 5 \t", api.ErrSum, 0},
		{"#h 1 2 3 4 5\n" + head + row, api.ErrSum, 0},
		// rows
		{head + " \t 2272060800 \t 10 \t ", nil, 0},
		{head + "0002272060800 0010", nil, 0},
		{head + "0 0", nil, 0},
		{head + "0000000000000 1000", nil, 0},
		{head + "2272060800 10 #", nil, 0},
		{head + "2272060800 10\t# 1 # 2\r\x00\xff", nil, 0},
		{head + "2272060800 10#", api.ErrForm, 3},
		{head + "2272060800 10 x", api.ErrForm, 3},
		{head + "2272060800 10x #", api.ErrForm, 3},
		{head + "2272060800 10 1", api.ErrForm, 3},
		{head + "2272060800 10\r", api.ErrForm, 3},
		{head + "2272060800", api.ErrForm, 3},
		{head + "2272060800 ", api.ErrForm, 3},
		{head + "2272060800 #", api.ErrForm, 3},
		{head + "2272060800#10", api.ErrForm, 3},
		{head + "2272060800,10", api.ErrForm, 3},
		{head + "2272060800 00010", api.ErrForm, 3},
		{head + "2272060800 10000", api.ErrForm, 3},
		{head + "2272060800 -1", api.ErrForm, 3},
		{head + "2272060800 +1", api.ErrForm, 3},
		{head + "2272060800 1.", api.ErrForm, 3},
		{head + "-86400 1", api.ErrForm, 3},
		{head + "+86400 1", api.ErrForm, 3},
		{head + "00002272060800 10", api.ErrForm, 3},
		{head + "22720608000000 10", api.ErrForm, 3},
		{head + "\r2272060800 10", api.ErrForm, 3},
		{head + "2272060800\v10", api.ErrForm, 3},
		{head + "2272060801 10", api.ErrRange, 3},
		{head + "2272060799 10", api.ErrRange, 3},
		{head + "1 0", api.ErrRange, 3},
		{head + "9999999999999 9999", api.ErrRange, 3},
		{head + "2272060801 10 x", api.ErrForm, 3},
		{head + "2272060801 10000", api.ErrForm, 3},
	} {
		x, err := Parse(c.text)
		if err != c.want || (x == nil) != (err != nil) {
			t.Errorf("Parse of %q: %v, %v; want %v", c.text, x, err, c.want)
		}
		if k := Fault(c.text); k != c.fault {
			t.Errorf("Fault of %q: %d; want %d", c.text, k, c.fault)
		}
		check(t, c.text)
	}
}

// P11.1: the first line with an error counts, whatever is behind it, and before everything that lines alone don't show.
func TestFirstLineCounts(t *testing.T) {
	for i, c := range []struct {
		text  string
		want  error
		fault int
	}{
		{"1 1\nx", api.ErrRange, 1},
		{"x\n1 1", api.ErrForm, 1},
		{head + "1 1\n#$ 1", api.ErrRange, 3},
		{head + "#$ 1\n1 1", api.ErrForm, 3},
		{head + "\n\n# 1\n\n1 1\n#h\nx", api.ErrRange, 7},
		{"\n\n\nx", api.ErrForm, 4},
		{"\n\n\nx\n", api.ErrForm, 4},
		{head + "86400 1\n86400 9999\n1 1", api.ErrRange, 5},
		{head + strings.Repeat("86400 1\n", 300) + "1 1", api.ErrRange, 303},
		{head + strings.Repeat("86400 1\n", 300) + "x", api.ErrForm, 303},
		{head + "#h 1 2 3 4 5\n86400 1", api.ErrRange, 0},
		{head + "#h 1 2 3 4 5\n0 1\n1 1", api.ErrRange, 5},
	} {
		if x, err := Parse(c.text); err != c.want || x != nil {
			t.Errorf("%d: %v, %v; want %v", i, x, err, c.want)
		}
		if k := Fault(c.text); k != c.fault {
			t.Errorf("%d: line %d; want %d", i, k, c.fault)
		}
		check(t, c.text)
	}
}

// P11.1: the errors of a table, with a wrong digest, which would be told later.
func TestErrorsOfTables(t *testing.T) {
	const last = (2932866 + 25567) * 86400 // 1 December 9999
	for i, c := range []struct {
		text string
		want error
	}{
		{head, api.ErrNone},
		{"#$ 9999999999999\n#@ 9999999999999", api.ErrNone},
		{head + strings.Repeat("0 0\n", 257), api.ErrLong},
		{head + strings.Repeat("0 0\n", 256), api.ErrOrder},
		{head + strings.Repeat("9999999936000 0\n", 257), api.ErrLong},
		{head + strings.Repeat("9999999936000 0\n", 256), api.ErrYear},
		{head + "9999999936000 9999", api.ErrYear},
		{head + fmt.Sprint(last+31*86400) + " 10", api.ErrYear},
		{head + fmt.Sprint(last+30*86400) + " 10", api.ErrRange},
		{head + fmt.Sprint(last) + " 1001", api.ErrRange},
		{head + "0 9999", api.ErrRange},
		{head + "86400 10", api.ErrRange},
		{head + "2272147200 10", api.ErrRange},
		{"#$ 1099511627777\n#@ 1\n0 0\n0 0", api.ErrRange},
		{head + "2287785600 11\n2272060800 10", api.ErrOrder},
		{head + "2272060800 10\n2272060800 11", api.ErrOrder},
		{head + "2272060800 10\n2287785600 10", api.ErrOrder},
		{head + "2272060800 10\n2287785600 12", api.ErrOrder},
		{head + fmt.Sprint(last) + " 10", nil},
		{head + "0 1000", nil},
		{head + "2272060800 10\n2287785600 9", nil},
	} {
		for k, digest := range []string{"", "\n#h 1 2 3 4 5", "\n#h 0 0 0 0 0"} {
			want := c.want
			if k > 0 && want == nil {
				want = api.ErrSum
			}
			if x, err := Parse(c.text + digest); err != want || (x == nil) != (want != nil) {
				t.Errorf("%d, %q: %v, %v; want %v", i, digest, x, err, want)
			}
			if fault := Fault(c.text + digest); fault != 0 {
				t.Errorf("%d, %q: line %d", i, digest, fault)
			}
			check(t, c.text+digest)
		}
	}
}

// P11.1: 65535 bytes may be read, and no more, whatever they are.
func TestLength(t *testing.T) {
	good := head + "2272060800 10\n"
	for _, filling := range []string{"#", "\n", " ", "#\n", "# 1 Jan 1972\n"} {
		long := strings.Repeat(filling, 65536/len(filling)+1)
		fits := good + long[:65535-len(good)]
		if x := parsed(t, fits); x.Len() != 1 || Fault(fits) != 0 {
			t.Errorf("with %q: %v, line %d", filling, x.Rows(), Fault(fits))
		}
		for _, over := range []string{fits + "#", "x\n" + fits, long + long + "\n1 1"} {
			if x, err := Parse(over); err != api.ErrLong || x != nil {
				t.Errorf("with %q, %d bytes: %v, %v", filling, len(over), x, err)
			}
			if k := Fault(over); k != 0 {
				t.Errorf("with %q, %d bytes: line %d", filling, len(over), k)
			}
		}
	}
	lines := strings.Repeat("\n", 65534) + "x"
	if x, err := Parse(lines); err != api.ErrForm || x != nil || Fault(lines) != 65535 {
		t.Errorf("the last line is wrong: %v, %v, line %d", x, err, Fault(lines))
	}
	full := months(256)
	text, err := Put(made(t, full, most, most))
	if x := parsed(t, text); err != nil || !slices.Equal(x.Rows(), full) {
		t.Errorf("256 rows, %d bytes: %v, %v", len(text), x.Rows(), err)
	}
}

// P11.1: a digest is read in any case, and with or without its words' zeros in front.
func TestDigestsOfTables(t *testing.T) {
	zeros, all := 0, tables(t, 300)
	for _, x := range all {
		text := written(x)
		from := strings.Index(text, "#h")
		body, w := text[:from], sha1.Words(digest(x.Rows(), x.Updated(), x.Expires()))
		for _, format := range []string{"#h %x %x %x %x %x", "#h %X %X %X %X %X", "#h\t%08X  %08x\t\t%08X \t%08x\t %08X \t"} {
			line := fmt.Sprintf(format, w[0], w[1], w[2], w[3], w[4])
			if len(line) < len("#h")+5*9 {
				zeros++
			}
			for _, s := range []string{body + line, line + "\n" + body} {
				if y := parsed(t, s); !leap.Same(x, y) {
					t.Errorf("Parse of %q: %v", s, y.Rows())
				}
			}
		}
		for i := range w {
			v := w
			v[i] ^= 1 << (i * 7 % 32)
			line := fmt.Sprintf("#h %x %x %x %x %x", v[0], v[1], v[2], v[3], v[4])
			if y, err := Parse(body + line); err != api.ErrSum || y != nil {
				t.Errorf("Parse of %q: %v, %v", body+line, y, err)
			}
		}
	}
	if zeros == 0 {
		t.Errorf("none of %d digests has a word with a zero in front", len(all))
	}
}

// P11.1, P11.2
func TestTables(t *testing.T) {
	for _, x := range tables(t, 300) {
		checkTable(t, x)
	}
}

// P11.1
func TestNoTable(t *testing.T) {
	if s, err := Put(nil); s != "" || err != api.ErrNone {
		t.Errorf("Put: %q, %v", s, err)
	}
	if d, err := Digest(nil); d != (sha1.Digest{}) || err != api.ErrNone {
		t.Errorf("Digest: %x, %v", d, err)
	}
}

// P11.1, P11.2: texts in forms that Put doesn't write are the same tables.
func TestDressedTexts(t *testing.T) {
	r := random(12)
	for range 3000 {
		x := r.table(t, 1+r.below(8))
		text := r.dressed(x)
		if m := check(t, text); m.err != nil || !leap.Same(m.table, x) {
			t.Fatalf("%q: %v", text, m.err)
		}
	}
}

// P11.1, P11.2: every text that is one byte away from a good one.
func TestEveryTextNearby(t *testing.T) {
	x := made(t, []leap.Row{{Day: start(1900, 1), Offset: 9}, {Day: start(1900, 2), Offset: 10}}, 7, 88)
	good := "# x\n" + strings.TrimSuffix(written(x), "\n") + " \n\n 5097600  9\t#!"
	accepted, counts := 0, map[error]int{}
	try := func(text string) {
		m := check(t, text)
		counts[m.err]++
		if m.err == nil {
			accepted++
		}
	}
	for at := range len(good) + 1 {
		for b := range 256 {
			try(good[:at] + string([]byte{byte(b)}) + good[at:])
			if at < len(good) {
				try(good[:at] + string([]byte{byte(b)}) + good[at+1:])
			}
		}
		if at < len(good) {
			try(good[:at] + good[at+1:])
			try(good[:at])
			try(good[at:])
		}
	}
	if accepted < 500 || counts[api.ErrForm] < 500 || counts[api.ErrRange] < 50 || counts[api.ErrSum] < 50 || counts[api.ErrOrder] < 2 {
		t.Errorf("too few of a kind: %v", counts)
	}
}

// P11.1, P11.2: texts with several bytes or lines out of place.
func TestSpoiltTexts(t *testing.T) {
	r := random(13)
	pieces := []string{"\n", " ", "\t", "#", "#$", "#@", "#h", "#$ 1\n", "#@ 2\n", "0", "1", "86400 ", "a", "F", "\r", "x", "\xff"}
	for range 20000 {
		text := r.dressed(r.table(t, 1+r.below(4)))
		for range 1 + r.below(3) {
			from := r.below(len(text) + 1)
			to := min(len(text), from+r.below(3)*r.below(8))
			text = text[:from] + r.pick(append(pieces, "", "")...) + text[to:]
		}
		if r.below(4) == 0 {
			lines := strings.SplitAfter(text, "\n")
			from, to := r.below(len(lines)), r.below(len(lines))
			lines[from], lines[to] = lines[to], lines[from]
			text = strings.Join(lines, "")
		}
		check(t, text)
	}
}
