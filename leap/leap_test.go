package leap

import (
	"math"
	"slices"
	"testing"
	"time"

	"horologe/api"
)

const (
	first = -25567  // 1 January 1900
	last  = 2932896 // 31 December 9999
	most  = 1 << 40 // the greatest time
)

// random makes numbers that look random, the same in each run.
type random uint64

func (r *random) next() uint64 {
	*r ^= *r << 13
	*r ^= *r >> 7
	*r ^= *r << 17
	return uint64(*r)
}

// below is a number from 0 to n - 1.
func (r *random) below(n int) int {
	return int(r.next() % uint64(n))
}

// rows are random rows that a table may have: a third of those behind the first take a second away.
func (r *random) rows(many int) []Row {
	list := make([]Row, 0, many)
	month, offset := r.below(600), 400+r.below(200)
	for range many {
		list = append(list, Row{start(1900, month+1), offset})
		month += 1 + r.below(12)*r.below(3)
		offset++
		if r.below(3) == 0 {
			offset -= 2
		}
	}
	return list
}

// start is the number of a month's first day, by the library; months may be more than 12.
func start(year, month int) int64 {
	return time.Date(year, time.Month(month), 1, 0, 0, 0, 0, time.UTC).Unix() / 86400
}

// date is a day's date, by the library.
func date(n int64) time.Time {
	return time.Unix(n*86400, 0).UTC()
}

// history is the leap seconds that there were from 1972 to 2017.
func history() []Row {
	starts := []int64{
		start(1972, 1), start(1972, 7), start(1973, 1), start(1974, 1), start(1975, 1), start(1976, 1), start(1977, 1),
		start(1978, 1), start(1979, 1), start(1980, 1), start(1981, 7), start(1982, 7), start(1983, 7), start(1985, 7),
		start(1988, 1), start(1990, 1), start(1991, 1), start(1992, 7), start(1993, 7), start(1994, 7), start(1996, 1),
		start(1997, 7), start(1999, 1), start(2006, 1), start(2009, 1), start(2012, 7), start(2015, 7), start(2017, 1),
	}
	rows := make([]Row, len(starts))
	for i, n := range starts {
		rows[i] = Row{n, 10 + i}
	}
	return rows
}

// mixed is rows of which some take a second away, at the ends of what a table may have.
func mixed() []Row {
	return []Row{{first, 0}, {start(1900, 2), 1}, {start(1900, 3), 0}, {start(1970, 1), 1}, {start(2000, 3), 2}, {start(9999, 12), 1}}
}

// months are rows for consecutive months.
func months(many int) []Row {
	rows := make([]Row, many)
	for i := range rows {
		rows[i] = Row{start(1950, 1+i), 500 + i%2}
	}
	return rows
}

// made is a table of rows, of which New must find no error.
func made(t *testing.T, rows []Row, updated, expires int64) *Table {
	t.Helper()
	x, err := New(rows, updated, expires)
	if err != nil || x == nil {
		t.Fatalf("New of %v, %d, %d: %v, %v", rows, updated, expires, x, err)
	}
	return x
}

// fault is the error of New, by the chapter's sentence.
func fault(rows []Row, updated, expires int64) error {
	if len(rows) == 0 {
		return api.ErrNone
	}
	if len(rows) > 256 {
		return api.ErrLong
	}
	for _, r := range rows {
		if r.Day < first || r.Day > last {
			return api.ErrYear
		}
	}
	for _, r := range rows {
		if date(r.Day).Day() != 1 || r.Offset < 0 || r.Offset > 1000 {
			return api.ErrRange
		}
	}
	if updated < 0 || updated > most || expires < 0 || expires > most {
		return api.ErrRange
	}
	for i := 1; i < len(rows); i++ {
		by := rows[i].Offset - rows[i-1].Offset
		if rows[i].Day <= rows[i-1].Day || by*by != 1 {
			return api.ErrOrder
		}
	}
	return nil
}

// offset is Offset, by the chapter's sentence.
func offset(rows []Row, n int64) (int, bool) {
	found, there := 0, false
	for _, r := range rows {
		if r.Day <= n {
			found, there = r.Offset, true
		}
	}
	return found, there
}

// long is Leap, by the chapter's sentence.
func long(rows []Row, n int64) int {
	for i := 1; i < len(rows); i++ {
		if n < math.MaxInt64 && n+1 == rows[i].Day {
			return rows[i].Offset - rows[i-1].Offset
		}
	}
	return 0
}

// checkDay holds what a table tells of a day against its rows.
func checkDay(t *testing.T, x *Table, rows []Row, n int64) {
	t.Helper()
	o, there := x.Offset(n)
	if wantO, wantThere := offset(rows, n); o != wantO || there != wantThere {
		t.Fatalf("Offset of %d: %d, %t; want %d, %t", n, o, there, wantO, wantThere)
	}
	by := long(rows, n)
	if got := x.Leap(n); got != by {
		t.Fatalf("Leap of %d: %d; want %d", n, got, by)
	}
	if got := x.Length(n); got != 86400+by {
		t.Fatalf("Length of %d: %d; want %d", n, got, 86400+by)
	}
	for _, second := range []int{math.MinInt, -1, 0, 1, 43200, 86398, 86399, 86400, 86401, math.MaxInt} {
		if got := x.Has(n, second); got != (second >= 0 && second < 86400+by) {
			t.Fatalf("Has of %d, %d: %t", n, second, got)
		}
	}
}

// checkNext holds Next of a day against the days before those of the rows, which are in order.
func checkNext(t *testing.T, x *Table, rows []Row, n int64) {
	t.Helper()
	d, by, there := x.Next(n)
	for _, r := range rows {
		if n < r.Day && long(rows, r.Day-1) != 0 {
			if !there || d != r.Day-1 || by != long(rows, d) {
				t.Fatalf("Next of %d: %d, %d, %t; want day %d", n, d, by, there, r.Day-1)
			}
			return
		}
	}
	if there || d != 0 || by != 0 {
		t.Fatalf("Next of %d: %d, %d, %t; want none", n, d, by, there)
	}
}

// days are those about each row's day and each end of the numbers.
func days(rows []Row) []int64 {
	list := []int64{math.MinInt64, math.MinInt64 + 1, math.MinInt64 + 2, -1 << 40, first - 1, -1, 0, 1, last, last + 1, 1 << 40, math.MaxInt64 - 2, math.MaxInt64 - 1, math.MaxInt64}
	for _, r := range rows {
		for by := int64(-3); by <= 3; by++ {
			list = append(list, r.Day+by)
		}
	}
	return list
}

// P10.1
func TestExample(t *testing.T) {
	x := made(t, []Row{{start(1972, 1), 10}, {start(1972, 7), 11}}, 0, 0)
	june := start(1972, 7) - 1
	if x.Length(june) != 86401 || x.Leap(june) != 1 || !x.Has(june, 86400) || x.Has(june, 86401) {
		t.Errorf("30 June 1972: %d seconds, %d", x.Length(june), x.Leap(june))
	}
	for _, n := range []int64{june - 1, june + 1, start(1972, 1) - 1, start(1972, 1), start(1973, 1) - 1} {
		if x.Length(n) != 86400 || x.Leap(n) != 0 || !x.Has(n, 86399) || x.Has(n, 86400) {
			t.Errorf("day %d: %d seconds, %d", n, x.Length(n), x.Leap(n))
		}
	}
}

// P10.1
func TestHistory(t *testing.T) {
	x := made(t, history(), 3692217600, 3896899200)
	for _, c := range []struct {
		year, month, day int
		offset           int
		there            bool
		leap             int
	}{
		{1971, 12, 31, 0, false, 0},
		{1972, 1, 1, 10, true, 0},
		{1972, 6, 30, 10, true, 1},
		{1972, 7, 1, 11, true, 0},
		{1979, 12, 31, 18, true, 1},
		{1980, 1, 6, 19, true, 0},
		{1998, 12, 31, 31, true, 1},
		{2005, 12, 31, 32, true, 1},
		{2016, 6, 30, 36, true, 0},
		{2016, 12, 31, 36, true, 1},
		{2017, 1, 1, 37, true, 0},
		{2026, 11, 20, 37, true, 0},
	} {
		n := time.Date(c.year, time.Month(c.month), c.day, 0, 0, 0, 0, time.UTC).Unix() / 86400
		if o, there := x.Offset(n); o != c.offset || there != c.there {
			t.Errorf("Offset at %v: %d, %t", c, o, there)
		}
		if by := x.Leap(n); by != c.leap {
			t.Errorf("Leap at %v: %d", c, by)
		}
	}
	many, seconds := 0, 0
	for n, by, there := x.Next(math.MinInt64); there && many < 100; n, by, there = x.Next(n + 1) {
		if date(n+1).Day() != 1 || by != 1 {
			t.Errorf("day %d, %d", n, by)
		}
		many++
	}
	for n := start(1972, 1); n < start(2017, 1); n++ {
		seconds += x.Length(n)
	}
	if many != 27 || seconds != 1483228800-63072000+27 {
		t.Errorf("%d long days, %d seconds", many, seconds)
	}
}

// P10.1, P10.2
func TestDays(t *testing.T) {
	r := random(10)
	tables := [][]Row{history(), mixed(), {{first, 1000}}, {{start(9999, 12), 0}}, r.rows(256)}
	for range 200 {
		tables = append(tables, r.rows(1+r.below(20)))
	}
	for _, rows := range tables {
		x := made(t, rows, 1, 2)
		for _, n := range days(rows) {
			checkDay(t, x, rows, n)
			checkNext(t, x, rows, n)
		}
		for range 100 {
			n := int64(r.below(last-first)) + first
			checkDay(t, x, rows, n)
			checkNext(t, x, rows, n)
		}
	}
}

// P10.1
func TestEveryNext(t *testing.T) {
	rows := []Row{{start(1972, 1), 10}, {start(1972, 3), 9}, {start(1972, 4), 10}, {start(1973, 1), 11}}
	x := made(t, rows, 1, 2)
	n := start(1974, 1)
	found, by, there := int64(0), 0, false
	for ; n > start(1971, 1); n-- {
		if step := x.Leap(n); step != 0 {
			found, by, there = n, step, true
		}
		if d, step, is := x.Next(n); d != found || step != by || is != there {
			t.Fatalf("Next of %d: %d, %d, %t; want %d, %d, %t", n, d, step, is, found, by, there)
		}
	}
	if found != start(1972, 3)-1 || by != -1 {
		t.Errorf("first: %d, %d", found, by)
	}
}

// P10.2
func TestOffsetsStep(t *testing.T) {
	for _, rows := range [][]Row{history(), mixed(), {{first, 3}}} {
		x := made(t, rows, 0, 0)
		now, there := x.Offset(rows[0].Day)
		for n := rows[0].Day; n <= last+1; n++ {
			next, still := x.Offset(n + 1)
			if !there || !still || next-now != x.Leap(n) {
				t.Fatalf("day %d: %d, %t; then %d, %t; Leap %d", n, now, there, next, still, x.Leap(n))
			}
			now = next
		}
		if by := x.Leap(rows[0].Day - 1); by != 0 {
			t.Errorf("the day before the first row: %d", by)
		}
	}
}

// P10.1
func TestRowsAndTimes(t *testing.T) {
	for _, rows := range [][]Row{history(), mixed(), {{first, 0}}} {
		x := made(t, rows, most, most-1)
		if x.Len() != len(rows) || !slices.Equal(x.Rows(), rows) || x.Updated() != most || x.Expires() != most-1 {
			t.Errorf("%d rows, %v, %d, %d", x.Len(), x.Rows(), x.Updated(), x.Expires())
		}
		for i, want := range rows {
			if r, there := x.Row(i); !there || r != want {
				t.Errorf("Row %d: %v, %t", i, r, there)
			}
		}
		for _, i := range []int{math.MinInt, -1, len(rows), len(rows) + 1, math.MaxInt} {
			if r, there := x.Row(i); there || r != (Row{}) {
				t.Errorf("Row %d: %v, %t", i, r, there)
			}
		}
	}
}

// P10.1
func TestExpired(t *testing.T) {
	for _, expires := range []int64{0, 1, 200, most} {
		x := made(t, history(), 100, expires)
		for _, seconds := range []int64{math.MinInt64, -1, 0, 1, 99, 100, 199, 200, 201, most - 1, most, most + 1, math.MaxInt64} {
			if got := x.Expired(seconds); got != (seconds >= expires) {
				t.Errorf("Expired at %d of %d: %t", seconds, expires, got)
			}
		}
	}
}

// P10.1
func TestNewErrors(t *testing.T) {
	one := []Row{{start(1972, 1), 10}}
	full := months(256)
	over := months(257)
	for i, c := range []struct {
		rows             []Row
		updated, expires int64
		want             error
	}{
		{one, 0, 0, nil},
		{one, most, most, nil},
		{full, 0, 0, nil},
		{mixed(), 0, 0, nil},
		{[]Row{{first, 0}}, 0, 0, nil},
		{[]Row{{first, 1000}}, 0, 0, nil},
		{[]Row{{start(9999, 12), 1000}}, 0, 0, nil},
		{[]Row{{first, 1000}, {start(1900, 2), 999}, {start(1900, 3), 1000}}, 5, 4, nil},
		{nil, 0, 0, api.ErrNone},
		{[]Row{}, 0, 0, api.ErrNone},
		{nil, -1, most + 1, api.ErrNone},
		{over, 0, 0, api.ErrLong},
		{make([]Row, 257), -1, -1, api.ErrLong},
		{make([]Row, 1000), 0, 0, api.ErrLong},
		{[]Row{{first - 1, 0}}, 0, 0, api.ErrYear},
		{[]Row{{start(1899, 12), 0}}, 0, 0, api.ErrYear},
		{[]Row{{-1 << 22, 0}}, 0, 0, api.ErrYear},
		{[]Row{{last + 1, 0}}, 0, 0, api.ErrYear},
		{[]Row{{math.MinInt64, 0}}, 0, 0, api.ErrYear},
		{[]Row{{math.MaxInt64, 0}}, 0, 0, api.ErrYear},
		{[]Row{one[0], {last + 1, 11}}, 0, 0, api.ErrYear},
		{[]Row{{start(1972, 1) + 1, -1}, {last + 1, 11}}, -1, 0, api.ErrYear},
		{[]Row{one[0], one[0], {first - 1, 11}}, 0, 0, api.ErrYear},
		{[]Row{{start(1972, 1) + 1, 10}}, 0, 0, api.ErrRange},
		{[]Row{{start(1972, 1) - 1, 10}}, 0, 0, api.ErrRange},
		{[]Row{{last, 10}}, 0, 0, api.ErrRange},
		{[]Row{one[0], {start(1972, 7) + 14, 11}}, 0, 0, api.ErrRange},
		{[]Row{{first, -1}}, 0, 0, api.ErrRange},
		{[]Row{{first, 1001}}, 0, 0, api.ErrRange},
		{[]Row{{first, math.MinInt}}, 0, 0, api.ErrRange},
		{[]Row{{first, math.MaxInt}}, 0, 0, api.ErrRange},
		{[]Row{{first, 0}, {start(1900, 2), -1}}, 0, 0, api.ErrRange},
		{[]Row{{first, 1000}, {start(1900, 2), 1001}}, 0, 0, api.ErrRange},
		{[]Row{one[0], one[0], {start(1972, 7) + 1, 11}}, 0, 0, api.ErrRange},
		{[]Row{one[0], one[0], {start(1972, 7), 1001}}, 0, 0, api.ErrRange},
		{one, -1, 0, api.ErrRange},
		{one, 0, -1, api.ErrRange},
		{one, most + 1, 0, api.ErrRange},
		{one, 0, most + 1, api.ErrRange},
		{one, math.MinInt64, 0, api.ErrRange},
		{one, 0, math.MaxInt64, api.ErrRange},
		{[]Row{one[0], one[0]}, 0, -1, api.ErrRange},
		{[]Row{one[0], {start(1972, 1), 11}}, 0, 0, api.ErrOrder},
		{[]Row{one[0], {start(1971, 7), 11}}, 0, 0, api.ErrOrder},
		{[]Row{one[0], {start(1972, 7), 10}}, 0, 0, api.ErrOrder},
		{[]Row{one[0], {start(1972, 7), 12}}, 0, 0, api.ErrOrder},
		{[]Row{one[0], {start(1972, 7), 8}}, 0, 0, api.ErrOrder},
		{[]Row{one[0], {start(1972, 7), 1000}}, 0, 0, api.ErrOrder},
		{[]Row{one[0], {start(1972, 7), 11}, {start(1973, 1), 11}}, 0, 0, api.ErrOrder},
		{[]Row{one[0], {start(1972, 7), 11}, {start(1972, 1), 12}}, 0, 0, api.ErrOrder},
		{[]Row{one[0], {start(1972, 7), 11}, {start(1972, 4), 12}}, 0, 0, api.ErrOrder},
	} {
		x, err := New(c.rows, c.updated, c.expires)
		if err != c.want || (x == nil) != (c.want != nil) {
			t.Errorf("%d: %v, %v; want %v", i, x, err, c.want)
		}
	}
}

// P10.1
func TestNewOfSpoiltRows(t *testing.T) {
	r := random(11)
	seen := map[error]int{}
	wrongDays := []int64{first - 1, last + 1, last, 0, 1, 59, start(1972, 1), start(2000, 3), math.MinInt64, math.MaxInt64}
	wrongOffsets := []int{-1, 0, 1, 10, 1000, 1001, math.MinInt, math.MaxInt}
	times := []int64{0, 1, most, 5, 1000, -1, most + 1}
	for range 20000 {
		rows := r.rows(1 + r.below(6))
		for range r.below(3) {
			row := &rows[r.below(len(rows))]
			switch r.below(4) {
			case 0:
				row.Day = wrongDays[r.below(len(wrongDays))]
			case 1:
				row.Offset = wrongOffsets[r.below(len(wrongOffsets))]
			case 2:
				row.Offset += r.below(7) - 3
			default:
				*row = rows[r.below(len(rows))]
			}
		}
		updated, expires := times[r.below(5+r.below(3))], times[r.below(5+r.below(3))]
		want := fault(rows, updated, expires)
		x, err := New(rows, updated, expires)
		if err != want || (x == nil) != (want != nil) {
			t.Fatalf("New of %v, %d, %d: %v; want %v", rows, updated, expires, err, want)
		}
		seen[want]++
	}
	for _, err := range []error{nil, api.ErrYear, api.ErrRange, api.ErrOrder} {
		if seen[err] < 1000 {
			t.Errorf("%v was seen %d times only", err, seen[err])
		}
	}
}

// P10.1
func TestEveryDayAsRow(t *testing.T) {
	for n := int64(first - 400); n <= last+400; n++ {
		want := error(nil)
		switch d := date(n); {
		case d.Year() < 1900 || d.Year() > 9999:
			want = api.ErrYear
		case d.Day() != 1:
			want = api.ErrRange
		}
		if _, err := New([]Row{{n, 7}}, 0, 0); err != want {
			t.Fatalf("New of day %d: %v; want %v", n, err, want)
		}
	}
}

// P10.1
func TestNil(t *testing.T) {
	var x *Table
	if x.Len() != 0 || len(x.Rows()) != 0 || x.Updated() != 0 || x.Expires() != 0 {
		t.Errorf("%d rows, %v, %d, %d", x.Len(), x.Rows(), x.Updated(), x.Expires())
	}
	for _, i := range []int{math.MinInt, -1, 0, 1, math.MaxInt} {
		if r, there := x.Row(i); there || r != (Row{}) {
			t.Errorf("Row %d: %v, %t", i, r, there)
		}
	}
	for _, n := range days(history()) {
		checkDay(t, x, nil, n)
		checkNext(t, x, nil, n)
		if !x.Expired(n) {
			t.Errorf("Expired at %d: false", n)
		}
	}
}

// P10.1
func TestSame(t *testing.T) {
	base := []Row{{start(1972, 1), 10}, {start(1972, 7), 11}, {start(1973, 1), 10}}
	x := made(t, base, 100, 200)
	if !Same(x, x) || !Same(x, made(t, base, 100, 200)) || !Same(made(t, base, 100, 200), x) || !Same(nil, nil) {
		t.Error("the same tables are not")
	}
	others := []*Table{
		nil,
		made(t, base, 101, 200),
		made(t, base, 100, 201),
		made(t, base, 200, 100),
		made(t, base[:2], 100, 200),
		made(t, base[1:], 100, 200),
		made(t, []Row{base[0], base[1], {start(1973, 1), 12}}, 100, 200),
		made(t, []Row{base[0], base[1], {start(1973, 2), 10}}, 100, 200),
		made(t, []Row{base[0], {start(1972, 7), 9}, base[2]}, 100, 200),
		made(t, []Row{{start(1972, 1), 12}, base[1], base[2]}, 100, 200),
		made(t, []Row{{start(1971, 12), 10}, base[1], base[2]}, 100, 200),
		made(t, append(slices.Clone(base), Row{start(1974, 1), 11}), 100, 200),
	}
	for i, a := range others {
		if Same(a, x) || Same(x, a) {
			t.Errorf("%d is the same", i)
		}
		for j, b := range others {
			if Same(a, b) != (i == j) {
				t.Errorf("%d and %d: %t", i, j, Same(a, b))
			}
		}
	}
}

// P10.1
func TestMemory(t *testing.T) {
	spare := []Row{{start(1972, 1), 10}, {start(1972, 7), 11}, {start(1973, 1), 12}, {5, 5}, {6, 6}}
	given := slices.Clone(spare)
	rows := given[:3]
	x := made(t, rows, 1, 2)
	y := made(t, spare[:3], 1, 2)
	if !slices.Equal(given, spare) {
		t.Errorf("the rows given are now %v", given)
	}
	rows[1] = Row{0, 99}
	out := x.Rows()
	out[0] = Row{0, 77}
	_ = append(out[:1], Row{1, 66})
	if !slices.Equal(x.Rows(), spare[:3]) || !Same(x, y) {
		t.Errorf("the table's rows are now %v", x.Rows())
	}
	for i := range 3 {
		if r, there := x.Row(i); !there || r != spare[i] {
			t.Errorf("Row %d: %v, %t", i, r, there)
		}
	}
	for _, n := range days(spare[:3]) {
		checkDay(t, x, spare[:3], n)
	}
}
