package scale

import (
	"math"
	"testing"
	"time"

	"horologe/api"
	"horologe/label"
	"horologe/leap"
)

const (
	first = -4371587 // 1 January -9999
	last  = 2932896  // 31 December 9999
)

// random makes numbers that look random, the same in each run.
type random uint64

func (r *random) next() uint64 {
	*r ^= *r << 13
	*r ^= *r >> 7
	*r ^= *r << 17
	return uint64(*r)
}

// below is a number from 0 to n - 1.
func (r *random) below(n int) int {
	return int(r.next() % uint64(n))
}

// rows are random rows that a table may have: a third of those behind the first take a second away.
func (r *random) rows(many int) []leap.Row {
	list := make([]leap.Row, 0, many)
	month, offset := r.below(600), 400+r.below(200)
	for range many {
		list = append(list, leap.Row{Day: start(1900, month+1), Offset: offset})
		month += 1 + r.below(12)*r.below(3)
		offset++
		if r.below(3) == 0 {
			offset -= 2
		}
	}
	return list
}

// start is the number of a month's first day, by the library; months may be more than 12.
func start(year, month int) int64 {
	return time.Date(year, time.Month(month), 1, 0, 0, 0, 0, time.UTC).Unix() / 86400
}

// tables are rows of some tables: those of the years to 1973, those at the ends of what a table may have, and random ones.
func tables(more int) [][]leap.Row {
	r := random(12)
	list := [][]leap.Row{
		{{Day: start(1972, 1), Offset: 10}, {Day: start(1972, 7), Offset: 11}, {Day: start(1973, 1), Offset: 12}},
		{{Day: start(1900, 1), Offset: 0}, {Day: start(1900, 2), Offset: 1}, {Day: start(1900, 3), Offset: 0}, {Day: start(9999, 12), Offset: 1}},
		{{Day: start(1900, 1), Offset: 1000}, {Day: start(1970, 1), Offset: 999}, {Day: start(1970, 2), Offset: 1000}, {Day: start(9999, 12), Offset: 999}},
		{{Day: start(9999, 12), Offset: 0}},
		{{Day: start(9999, 12), Offset: 1000}},
		r.rows(256),
	}
	for range more {
		list = append(list, r.rows(1+r.below(12)))
	}
	return list
}

// made is a table of rows, of which New must find no error.
func made(t *testing.T, rows []leap.Row) *leap.Table {
	t.Helper()
	if len(rows) == 0 {
		return nil
	}
	x, err := leap.New(rows, 0, 0)
	if err != nil {
		t.Fatal(rows, err)
	}
	return x
}

// ahead is a day's offset by rows.
func ahead(rows []leap.Row, n int64) (int64, bool) {
	offset, there := 0, false
	for _, r := range rows {
		if r.Day <= n {
			offset, there = r.Offset, true
		}
	}
	return int64(offset), there
}

// length is how many seconds a day has by rows.
func length(rows []leap.Row, n int64) int64 {
	for i := 1; i < len(rows); i++ {
		if rows[i].Day == n+1 {
			return int64(86400 + rows[i].Offset - rows[i-1].Offset)
		}
	}
	return 86400
}

// tai is the atomic seconds of a day and a second that it may have, by the chapter's definition.
func tai(rows []leap.Row, n, second int64) (int64, error) {
	offset, there := ahead(rows, n)
	if !there {
		return 0, api.ErrNone
	}
	if second >= length(rows, n) {
		return 0, api.ErrLeap
	}
	return 86400*n + second + offset, nil
}

// found is the day and the second of it whose atomic seconds are those: all days near them are tried.
func found(rows []leap.Row, seconds int64) (n, second int64, err error) {
	if len(rows) == 0 || seconds < 86400*rows[0].Day+int64(rows[0].Offset) {
		return 0, 0, api.ErrNone
	}
	for n := seconds/86400 - 2; n <= seconds/86400+2; n++ {
		offset, there := ahead(rows, n)
		second := seconds - 86400*n - offset
		if there && 0 <= second && second < length(rows, n) {
			if n > last {
				return 0, 0, api.ErrYear
			}
			return n, second, nil
		}
	}
	panic("no day has those atomic seconds")
}

// shown is a moment's label, by the library, or the error for which there is none.
func shown(n, second int64, nano, offset int) (label.Label, error) {
	if n < first || n > last {
		return label.Label{}, api.ErrYear
	}
	if nano < 0 || nano > 999999999 || offset < -1439 || offset > 1439 {
		return label.Label{}, api.ErrRange
	}
	more := second / 86400 // the second 60 is shown as the one after the second 59
	x := time.Unix(86400*n+second-more+60*int64(offset), 0).UTC()
	if x.Year() < -9999 || x.Year() > 9999 {
		return label.Label{}, api.ErrYear
	}
	return label.Label{
		Year: x.Year(), Month: int(x.Month()), Day: x.Day(),
		Hour: x.Hour(), Minute: x.Minute(), Second: x.Second() + int(more),
		Nano: nano, Offset: offset,
	}, nil
}

// checkTai holds what is told of atomic seconds against the model.
func checkTai(t *testing.T, x *leap.Table, rows []leap.Row, seconds int64, nano, offset int) {
	t.Helper()
	n, second, fault := found(rows, seconds)
	var want label.Label
	wantErr := fault
	if fault == nil {
		want, wantErr = shown(n, second, nano, offset)
	}
	if l, err := Label(x, seconds, nano, offset); l != want || err != wantErr {
		t.Fatalf("Label of %d, %d, %d: %+v, %v; want %+v, %v", seconds, nano, offset, l, err, want, wantErr)
	}
	p, is, err := PosixOf(x, seconds)
	if err != fault || fault == nil && (p != 86400*n+second || is != (second == 86400)) || fault != nil && (p != 0 || is) {
		t.Fatalf("PosixOf of %d: %d, %t, %v; want day %d, second %d, %v", seconds, p, is, err, n, second, fault)
	}
	o, err := Ahead(x, seconds)
	wantO, _ := ahead(rows, n)
	if fault != nil {
		wantO = 0
	}
	if int64(o) != wantO || err != fault {
		t.Fatalf("Ahead of %d: %d, %v; want %d, %v", seconds, o, err, wantO, fault)
	}
	if wantErr == nil {
		if again, err := Tai(x, want); again != seconds || err != nil {
			t.Fatalf("Tai of %+v: %d, %v; want %d", want, again, err, seconds)
		}
	}
}

// checkMoment holds what is told of the label of a day and a second of it against the model.
func checkMoment(t *testing.T, x *leap.Table, rows []leap.Row, n, second int64, offset int) {
	t.Helper()
	l, err := shown(n, second, 5, offset)
	if err != nil {
		return
	}
	want, wantErr := tai(rows, n, second)
	if got, err := Tai(x, l); got != want || err != wantErr {
		t.Fatalf("Tai of %+v: %d, %v; want %d, %v", l, got, err, want, wantErr)
	}
	var listed error
	if second >= length(rows, n) {
		listed = api.ErrLeap
	}
	if err := Listed(x, l); err != listed {
		t.Fatalf("Listed of %+v: %v; want %v", l, err, listed)
	}
	if p, err := Posix(l); p != 86400*n+second || err != nil {
		t.Fatalf("Posix of %+v: %d, %v; want %d", l, p, err, 86400*n+second)
	}
}

// checkPosix holds what is told of machine seconds against the model.
func checkPosix(t *testing.T, x *leap.Table, rows []leap.Row, posix int64, nano, offset int) {
	t.Helper()
	second := posix % 86400
	if second < 0 {
		second += 86400
	}
	n := posix / 86400
	if 86400*n > posix {
		n--
	}
	want, wantErr := shown(n, second, nano, offset)
	if l, err := FromPosix(posix, nano, offset); l != want || err != wantErr {
		t.Fatalf("FromPosix of %d, %d, %d: %+v, %v; want %+v, %v", posix, nano, offset, l, err, want, wantErr)
	}
	var wantTai int64
	_, wantErr = shown(n, second, 0, 0)
	if wantErr == nil {
		wantTai, wantErr = tai(rows, n, second)
	}
	if got, err := TaiOf(x, posix); got != wantTai || err != wantErr {
		t.Fatalf("TaiOf of %d: %d, %v; want %d, %v", posix, got, err, wantTai, wantErr)
	}
}

// P12.1: the chapter's example, and what follows from it.
func TestExample(t *testing.T) {
	x := made(t, []leap.Row{{Day: start(1972, 1), Offset: 10}, {Day: start(1972, 7), Offset: 11}})
	l := label.Label{Year: 1972, Month: 6, Day: 30, Hour: 23, Minute: 59, Second: 60}
	if n, err := Tai(x, l); n != 78796810 || err != nil {
		t.Errorf("Tai: %d, %v", n, err)
	}
	if got, err := Label(x, 78796810, 0, 0); got != l || err != nil {
		t.Errorf("Label: %+v, %v", got, err)
	}
	if p, is, err := PosixOf(x, 78796810); p != 78796800 || !is || err != nil {
		t.Errorf("PosixOf: %d, %t, %v", p, is, err)
	}
	west := label.Label{Year: 1972, Month: 6, Day: 30, Hour: 18, Minute: 29, Second: 60, Nano: 7, Offset: -330}
	if got, err := Label(x, 78796810, 7, -330); got != west || err != nil {
		t.Errorf("Label: %+v, %v", got, err)
	}
	if p, err := Posix(west); p != 78796800 || err != nil {
		t.Errorf("Posix: %d, %v", p, err)
	}
	if o, err := Ahead(x, 78796810); o != 10 || err != nil {
		t.Errorf("Ahead: %d, %v", o, err)
	}
	if o, err := Ahead(x, 78796811); o != 11 || err != nil {
		t.Errorf("Ahead: %d, %v", o, err)
	}
}

// P12.1
func TestAtomicSeconds(t *testing.T) {
	r := random(121)
	for _, rows := range tables(60) {
		x := made(t, rows)
		near := []int64{math.MinInt64, math.MinInt64 + 1001, -1 << 50, -1, 0, 1, 86400 * first, 1 << 50}
		for _, row := range rows {
			for by := int64(-4); by <= 4; by++ {
				near = append(near, 86400*row.Day+int64(row.Offset)+by, 86400*row.Day+by, 86400*row.Day+86400*by)
			}
		}
		lastOffset := int64(rows[len(rows)-1].Offset)
		for by := int64(-3); by <= 3; by++ {
			near = append(near, 86400*(last+1)+lastOffset+by, 86400*(last+2)+by)
		}
		for range 100 {
			near = append(near, 86400*rows[0].Day+int64(r.below(86400*last)))
		}
		for i, seconds := range near {
			checkTai(t, x, rows, seconds, r.below(1000000000), r.below(2879)-1439)
			checkTai(t, x, rows, seconds, i, 0)
			checkTai(t, x, rows, seconds, -r.below(2), 1439+r.below(2))
			checkTai(t, x, rows, seconds, 999999999+r.below(2), -1439-r.below(2))
		}
		for _, seconds := range []int64{math.MaxInt64, math.MaxInt64 - 1, math.MaxInt64 - 86400} {
			if l, err := Label(x, seconds, -1, 5000); l != (label.Label{}) || err != api.ErrYear {
				t.Errorf("Label of %d: %+v, %v", seconds, l, err)
			}
			if p, is, err := PosixOf(x, seconds); p != 0 || is || err != api.ErrYear {
				t.Errorf("PosixOf of %d: %d, %t, %v", seconds, p, is, err)
			}
			if o, err := Ahead(x, seconds); o != 0 || err != api.ErrYear {
				t.Errorf("Ahead of %d: %d, %v", seconds, o, err)
			}
		}
	}
}

// P12.1
func TestMoments(t *testing.T) {
	r := random(122)
	for _, rows := range append(tables(60), nil) {
		x := made(t, rows)
		near := []int64{first, first + 1, -1, 0, 1, last - 1, last}
		for _, row := range rows {
			near = append(near, row.Day-2, row.Day-1, row.Day, row.Day+1)
		}
		for range 50 {
			near = append(near, first+int64(r.below(last-first+1)))
		}
		for _, n := range near {
			for _, second := range []int64{0, 1, int64(r.below(86400)), 86398, 86399, 86400} {
				for _, offset := range []int{0, -1439, 1439, r.below(2879) - 1439} {
					checkMoment(t, x, rows, n, second, offset)
				}
			}
		}
	}
}

// P12.1
func TestMachineSeconds(t *testing.T) {
	r := random(123)
	for _, rows := range append(tables(40), nil) {
		x := made(t, rows)
		near := []int64{math.MinInt64, math.MinInt64 + 1, math.MinInt64 + 86400, math.MaxInt64 - 86400, math.MaxInt64 - 1, math.MaxInt64}
		edges := []int64{first, first + 1, 0, 1, last, last + 1}
		for _, row := range rows {
			edges = append(edges, row.Day, row.Day+1)
		}
		for _, n := range edges {
			for by := int64(-3); by <= 3; by++ {
				near = append(near, 86400*n+by)
			}
		}
		for range 100 {
			near = append(near, 86400*first+int64(r.below(86400*(last-first+1))))
		}
		for i, posix := range near {
			checkPosix(t, x, rows, posix, i, 0)
			checkPosix(t, x, rows, posix, r.below(1000000000), r.below(2879)-1439)
			checkPosix(t, x, rows, posix, -r.below(2), 1439+r.below(2))
			checkPosix(t, x, rows, posix, 999999999+r.below(2), -1439-r.below(2))
		}
	}
}

// P12.1: the error of a label comes before that of a table, and nothing is given with it.
func TestErrors(t *testing.T) {
	x := made(t, []leap.Row{{Day: start(1972, 1), Offset: 10}, {Day: start(1972, 7), Offset: 11}, {Day: start(1973, 1), Offset: 10}})
	at := func(year, month, day, hour, minute, second int) label.Label {
		return label.Label{Year: year, Month: month, Day: day, Hour: hour, Minute: minute, Second: second}
	}
	good := at(1972, 1, 1, 0, 0, 0)
	for i, c := range []struct {
		table             *leap.Table
		l                 label.Label
		tai, posix, shown error
	}{
		{x, good, nil, nil, nil},
		{nil, good, api.ErrNone, nil, nil},
		{x, at(1971, 12, 31, 23, 59, 59), api.ErrNone, nil, nil},
		{x, at(1971, 12, 31, 23, 59, 60), api.ErrNone, nil, api.ErrLeap},
		{nil, at(1972, 6, 30, 23, 59, 60), api.ErrNone, nil, api.ErrLeap},
		{x, at(1972, 6, 30, 23, 59, 60), nil, nil, nil},
		{x, at(1972, 6, 29, 23, 59, 60), api.ErrLeap, nil, api.ErrLeap},
		{x, at(1972, 12, 31, 23, 59, 58), nil, nil, nil},
		{x, at(1972, 12, 31, 23, 59, 59), api.ErrLeap, nil, api.ErrLeap},
		{x, at(1972, 12, 31, 23, 59, 60), api.ErrLeap, nil, api.ErrLeap},
		{nil, at(1972, 12, 31, 23, 59, 59), api.ErrNone, nil, nil},
		{x, at(9999, 12, 31, 23, 59, 60), api.ErrLeap, nil, api.ErrLeap},
		{x, at(10000, 1, 1, 0, 0, 0), api.ErrYear, api.ErrYear, api.ErrYear},
		{nil, at(-10000, 1, 1, 0, 0, 0), api.ErrYear, api.ErrYear, api.ErrYear},
		{x, at(1973, 2, 29, 0, 0, 0), api.ErrRange, api.ErrRange, api.ErrRange},
		{nil, at(1960, 1, 1, 24, 0, 0), api.ErrRange, api.ErrRange, api.ErrRange},
		{x, at(1972, 6, 30, 23, 59, 61), api.ErrRange, api.ErrRange, api.ErrRange},
		{x, at(1972, 6, 30, 23, 58, 60), api.ErrLeap, api.ErrLeap, api.ErrLeap},
		{nil, at(1972, 6, 30, 22, 59, 60), api.ErrLeap, api.ErrLeap, api.ErrLeap},
		{x, label.Label{Year: 1972, Month: 6, Day: 30, Hour: 23, Minute: 59, Second: 60, Offset: 1}, api.ErrLeap, api.ErrLeap, api.ErrLeap},
		{x, label.Label{Year: 1972, Month: 7, Day: 1, Hour: 1, Minute: 59, Second: 60, Offset: 120}, nil, nil, nil},
		{x, label.Label{Year: 1972, Month: 1, Day: 1, Hour: 1, Offset: 120}, api.ErrNone, nil, nil},
		{x, label.Label{Year: 9999, Month: 12, Day: 31, Hour: 23, Offset: -61}, api.ErrYear, api.ErrYear, api.ErrYear},
		{x, label.Label{Year: 1972, Month: 1, Day: 1, Nano: -1}, api.ErrRange, api.ErrRange, api.ErrRange},
		{x, label.Label{Year: 1972, Month: 1, Day: 1, Offset: 1440}, api.ErrRange, api.ErrRange, api.ErrRange},
		{x, label.Label{}, api.ErrRange, api.ErrRange, api.ErrRange},
	} {
		n, err := Tai(c.table, c.l)
		if err != c.tai || err != nil && n != 0 {
			t.Errorf("%d: Tai: %d, %v; want %v", i, n, err, c.tai)
		}
		p, err := Posix(c.l)
		if err != c.posix || err != nil && p != 0 {
			t.Errorf("%d: Posix: %d, %v; want %v", i, p, err, c.posix)
		}
		if err := Listed(c.table, c.l); err != c.shown {
			t.Errorf("%d: Listed: %v; want %v", i, err, c.shown)
		}
		for _, other := range []label.Label{good, {}} {
			_, later := Tai(c.table, other)
			want := c.tai
			if want == nil {
				want = later
			}
			if d, err := Between(c.table, c.l, other); err != want || err != nil && d != 0 {
				t.Errorf("%d: Between: %d, %v; want %v", i, d, err, want)
			}
			want = later
			if want == nil {
				want = c.tai
			}
			if d, err := Between(c.table, other, c.l); err != want || err != nil && d != 0 {
				t.Errorf("%d: Between, the other way: %d, %v; want %v", i, d, err, want)
			}
		}
	}
}

// P12.1
func TestNoTable(t *testing.T) {
	for _, n := range []int64{math.MinInt64, -1, 0, 1, 1 << 40, math.MaxInt64} {
		if l, err := Label(nil, n, -1, 5000); l != (label.Label{}) || err != api.ErrNone {
			t.Errorf("Label of %d: %+v, %v", n, l, err)
		}
		if p, is, err := PosixOf(nil, n); p != 0 || is || err != api.ErrNone {
			t.Errorf("PosixOf of %d: %d, %t, %v", n, p, is, err)
		}
		if o, err := Ahead(nil, n); o != 0 || err != api.ErrNone {
			t.Errorf("Ahead of %d: %d, %v", n, o, err)
		}
	}
}

// P12.2: each second about a row's day, one after the other.
func TestSecondsStep(t *testing.T) {
	for _, rows := range tables(20) {
		x := made(t, rows)
		for i, row := range rows {
			n, second := row.Day-2, int64(86300)
			if i == 0 {
				n, second = row.Day, 0
			}
			before, err := tai(rows, n, second)
			if err != nil {
				t.Fatal(err)
			}
			for range 86700 {
				if second++; second >= length(rows, n) {
					n, second = n+1, 0
				}
				if n > row.Day {
					break
				}
				l, err := shown(n, second, 0, 60)
				if err != nil {
					t.Fatal(err)
				}
				now, err := Tai(x, l)
				if now != before+1 || err != nil {
					t.Fatalf("Tai of %+v: %d, %v; before it %d", l, now, err, before)
				}
				if back, err := Label(x, now, 0, 60); back != l || err != nil {
					t.Fatalf("Label of %d: %+v, %v; want %+v", now, back, err, l)
				}
				before = now
			}
			if i == 3 {
				break
			}
		}
	}
}

// P12.2: the later of two moments has more atomic seconds.
func TestOrder(t *testing.T) {
	r := random(124)
	for _, rows := range tables(40) {
		x := made(t, rows)
		var list []label.Label
		for range 60 {
			row := rows[r.below(len(rows))]
			l, err := shown(row.Day+int64(r.below(3))-1, []int64{0, 1, 86398, 86399, 86400}[r.below(5)], 0, r.below(2879)-1439)
			if err == nil && Listed(x, l) == nil {
				list = append(list, l)
			}
		}
		for _, a := range list {
			for _, b := range list {
				from, errA := Tai(x, a)
				till, errB := Tai(x, b)
				d, err := Between(x, a, b)
				if errA != nil || errB != nil {
					if err == nil || d != 0 {
						t.Fatalf("Between of %+v and %+v: %d, %v", a, b, d, err)
					}
					continue
				}
				order, _ := label.Compare(a, b)
				if err != nil || d != till-from || (d > 0) != (order < 0) || (d < 0) != (order > 0) {
					t.Fatalf("Between of %+v and %+v: %d, %v; order %d", a, b, d, err, order)
				}
			}
		}
	}
}

// P12.3: on days of a plain length both count alike.
func TestScalesDiffer(t *testing.T) {
	r := random(125)
	for _, rows := range tables(40) {
		x := made(t, rows)
		for range 300 {
			n := rows[0].Day + int64(r.below(4000))
			if n > last || length(rows, n) != 86400 {
				continue
			}
			posix := 86400*n + int64(r.below(86400))
			offset, _ := ahead(rows, n)
			if got, err := TaiOf(x, posix); got-posix != offset || err != nil {
				t.Fatalf("TaiOf of %d: %d, %v; want %d more", posix, got, err, offset)
			}
			if got, is, err := PosixOf(x, posix+offset); got != posix || is || err != nil {
				t.Fatalf("PosixOf of %d: %d, %t, %v; want %d", posix+offset, got, is, err, posix)
			}
			if o, err := Ahead(x, posix+offset); int64(o) != offset || err != nil {
				t.Fatalf("Ahead of %d: %d, %v; want %d", posix+offset, o, err, offset)
			}
		}
	}
}
