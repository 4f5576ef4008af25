package mjd

import (
	"fmt"
	"math"
	"regexp"
	"strconv"
	"testing"
	"time"

	"horologe/api"
)

const (
	first = -4371587 // 1 January -9999
	last  = 2932896  // 31 December 9999
)

// epochDay is the day on which a kind's count is 0.
func epochDay(kind int) int64 {
	var at time.Time
	switch kind {
	case Modified:
		at = time.Date(1858, 11, 17, 0, 0, 0, 0, time.UTC)
	case Julian:
		at = time.Date(-4713, 11, 24, 0, 0, 0, 0, time.UTC) // 1 January -4712 by Julian's calendar
	case Stamped:
		at = time.Date(1900, 1, 1, 0, 0, 0, 0, time.UTC)
	case Satellite:
		at = time.Date(1980, 1, 6, 0, 0, 0, 0, time.UTC)
	}
	return at.Unix() / 86400
}

// extremes are numbers far from all days, with which arithmetic may wrap around.
func extremes() []int64 {
	list := []int64{math.MinInt64, math.MinInt64 + 1, math.MaxInt64, math.MaxInt64 - 1}
	for shift := 23; shift < 63; shift++ {
		power := int64(1) << shift
		for _, near := range []int64{0, 1, 3657, 25567, 40587, 2440588, 2932896} {
			list = append(list, power+near, power-near, -power-near, -power+near)
		}
	}
	for kind := Modified; kind <= Satellite; kind++ {
		zero := epochDay(kind)
		for _, end := range []int64{math.MinInt64, math.MaxInt64} {
			for near := int64(-3); near <= 3; near++ { // those beyond the end come out at the other end
				list = append(list, end+zero+near, end-zero+near, end+zero+first+near, end-zero-last+near)
			}
		}
	}
	return list
}

// noKinds are numbers of no kind, also such as are a kind's in fewer bits.
func noKinds() []int {
	list := []int{0, -1, -2, -3, -4, 5, 6, 7, 8, 100, math.MinInt, math.MaxInt, math.MinInt + 1, math.MaxInt - 1}
	for _, shift := range []int{8, 16, 32, 33, 62} {
		for kind := range 6 {
			list = append(list, 1<<shift+kind, -1<<shift+kind)
		}
	}
	return list
}

// outside are numbers of days that no date has.
func outside() []int64 {
	list := []int64{first - 1, first - 2, first - 365, first - 40587, first - 2440588, last + 1, last + 2, last + 3657, last + 40587, last + 2440588}
	for _, n := range extremes() {
		if n < first || n > last {
			list = append(list, n)
		}
	}
	return list
}

// P7.1, P7.2
func TestEveryDay(t *testing.T) {
	for kind := Modified; kind <= Satellite; kind++ {
		want := first - epochDay(kind)
		for n := int64(first); n <= last; n++ {
			if count, err := Count(kind, n); count != want || err != nil {
				t.Fatalf("Count of %d, %d: %d, %v; want %d", kind, n, count, err, want)
			}
			if back, err := Day(kind, want); back != n || err != nil {
				t.Fatalf("Day of %d, %d: %d, %v; want %d", kind, want, back, err, n)
			}
			want++
		}
	}
}

// P7.1, P7.2
func TestEveryText(t *testing.T) {
	for kind := Modified; kind <= Satellite; kind++ {
		zero := epochDay(kind)
		for n := int64(first); n <= last; n++ {
			count := n - zero
			if n%7 != 0 && (count < -1100 || count > 1100) && n > first+10 && n < last-10 {
				continue
			}
			want := strconv.FormatInt(count, 10)
			if s, err := Text(kind, n); s != want || err != nil {
				t.Fatalf("Text of %d, %d: %q, %v; want %q", kind, n, s, err, want)
			}
			if back, err := Parse(kind, want); back != n || err != nil {
				t.Fatalf("Parse of %d, %q: %d, %v; want %d", kind, want, back, err, n)
			}
		}
	}
}

// P7.1: counts whose days are known.
func TestKnown(t *testing.T) {
	for _, c := range []struct {
		kind     int
		n, count int64
		text     string
	}{
		{Modified, 0, 40587, "40587"}, {Julian, 0, 2440588, "2440588"}, {Stamped, 0, 25567, "25567"}, {Satellite, 0, -3657, "-3657"},
		{Modified, -40587, 0, "0"}, {Julian, -2440588, 0, "0"}, {Stamped, -25567, 0, "0"}, {Satellite, 3657, 0, "0"},
		{Modified, 10957, 51544, "51544"}, {Julian, 10957, 2451545, "2451545"}, {Stamped, 10957, 36524, "36524"}, {Satellite, 10957, 7300, "7300"},
		{Modified, -40588, -1, "-1"}, {Julian, -2440589, -1, "-1"}, {Stamped, -25568, -1, "-1"}, {Satellite, 3656, -1, "-1"},
		{Modified, last, 2973483, "2973483"}, {Julian, last, 5373484, "5373484"}, {Stamped, last, 2958463, "2958463"}, {Satellite, last, 2929239, "2929239"},
		{Modified, first, -4331000, "-4331000"}, {Julian, first, -1930999, "-1930999"}, {Stamped, first, -4346020, "-4346020"}, {Satellite, first, -4375244, "-4375244"},
	} {
		if count, err := Count(c.kind, c.n); count != c.count || err != nil {
			t.Errorf("Count of %+v: %d, %v", c, count, err)
		}
		if n, err := Day(c.kind, c.count); n != c.n || err != nil {
			t.Errorf("Day of %+v: %d, %v", c, n, err)
		}
		if s, err := Text(c.kind, c.n); s != c.text || err != nil {
			t.Errorf("Text of %+v: %q, %v", c, s, err)
		}
		if n, err := Parse(c.kind, c.text); n != c.n || err != nil {
			t.Errorf("Parse of %+v: %d, %v", c, n, err)
		}
	}
}

// P7.1
func TestNoDate(t *testing.T) {
	for kind := Modified; kind <= Satellite; kind++ {
		for _, n := range outside() {
			if count, err := Count(kind, n); count != 0 || err != api.ErrYear {
				t.Errorf("Count of %d, %d: %d, %v", kind, n, count, err)
			}
			if s, err := Text(kind, n); s != "" || err != api.ErrYear {
				t.Errorf("Text of %d, %d: %q, %v", kind, n, s, err)
			}
		}
		zero := epochDay(kind)
		beside := []int64{first - zero - 1, first - zero - 2, last - zero + 1, last - zero + 2}
		for _, count := range append(extremes(), beside...) {
			if first-zero <= count && count <= last-zero {
				continue
			}
			if n, err := Day(kind, count); n != 0 || err != api.ErrYear {
				t.Errorf("Day of %d, %d: %d, %v", kind, count, n, err)
			}
		}
	}
	for _, n := range outside() {
		if s, err := Five(n); s != "" || err != api.ErrYear {
			t.Errorf("Five of %d: %q, %v", n, s, err)
		}
	}
}

// P7.1: an unknown kind is told before anything else.
func TestNoKind(t *testing.T) {
	for _, kind := range noKinds() {
		for _, n := range []int64{0, 40587, first, last, first - 1, last + 1, math.MinInt64, math.MaxInt64} {
			if count, err := Count(kind, n); count != 0 || err != api.ErrKind {
				t.Errorf("Count of %d, %d: %d, %v", kind, n, count, err)
			}
			if day, err := Day(kind, n); day != 0 || err != api.ErrKind {
				t.Errorf("Day of %d, %d: %d, %v", kind, n, day, err)
			}
			if s, err := Text(kind, n); s != "" || err != api.ErrKind {
				t.Errorf("Text of %d, %d: %q, %v", kind, n, s, err)
			}
		}
		for _, s := range []string{"0", "40587", "", "x", "12345678", "9999999", "99999999999999999999", "-"} {
			if n, err := Parse(kind, s); n != 0 || err != api.ErrKind {
				t.Errorf("Parse of %d, %q: %d, %v", kind, s, n, err)
			}
		}
		if s := Word(kind); s != "" {
			t.Errorf("Word of %d: %q", kind, s)
		}
	}
}

// P7.1
func TestWords(t *testing.T) {
	for i, want := range []string{"", "modified", "julian", "stamped", "satellite", ""} {
		if s := Word(i); s != want {
			t.Errorf("Word of %d: %q; want %q", i, s, want)
		}
	}
	if Modified != 1 || Julian != 2 || Stamped != 3 || Satellite != 4 {
		t.Error("the kinds' numbers:", Modified, Julian, Stamped, Satellite)
	}
}

// P7.1
func TestForms(t *testing.T) {
	for _, c := range []struct {
		kind int
		s    string
		n    int64
		want error
	}{
		{Satellite, "+0", 3657, nil}, {Satellite, "-0", 3657, nil}, {Satellite, "0000000", 3657, nil}, {Satellite, "-0003657", 0, nil}, {Modified, "+0040587", 0, nil},
		{Julian, "+2440588", 0, nil}, {Julian, "5373484", last, nil}, {Julian, "5373485", 0, api.ErrYear}, {Julian, "-1930999", first, nil}, {Julian, "-1931000", 0, api.ErrYear},
		{Modified, "2973483", last, nil}, {Modified, "2973484", 0, api.ErrYear}, {Modified, "-4331000", first, nil}, {Modified, "-4331001", 0, api.ErrYear},
		{Stamped, "2958463", last, nil}, {Stamped, "2958464", 0, api.ErrYear}, {Stamped, "-4346020", first, nil}, {Stamped, "-4346021", 0, api.ErrYear},
		{Satellite, "2929239", last, nil}, {Satellite, "2929240", 0, api.ErrYear}, {Satellite, "-4375244", first, nil}, {Satellite, "-4375245", 0, api.ErrYear},
		{Modified, "9999999", 0, api.ErrYear}, {Modified, "-9999999", 0, api.ErrYear}, {Modified, "10000000", 0, api.ErrForm}, {Modified, "-10000000", 0, api.ErrForm},
		{Modified, "00000000", 0, api.ErrForm}, {Modified, "00040587", 0, api.ErrForm}, {Modified, "99999999999999999999", 0, api.ErrForm}, {Modified, "-9223372036854775808", 0, api.ErrForm},
		{Modified, "", 0, api.ErrForm}, {Modified, "+", 0, api.ErrForm}, {Modified, "-", 0, api.ErrForm}, {Modified, "+-1", 0, api.ErrForm}, {Modified, "--1", 0, api.ErrForm}, {Modified, "-+1", 0, api.ErrForm},
		{Modified, " 1", 0, api.ErrForm}, {Modified, "1 ", 0, api.ErrForm}, {Modified, "1\n", 0, api.ErrForm}, {Modified, "1.0", 0, api.ErrForm}, {Modified, "0x1", 0, api.ErrForm}, {Modified, "1_0", 0, api.ErrForm}, {Modified, "1e3", 0, api.ErrForm},
		{Modified, "9999999x", 0, api.ErrForm}, {Modified, "\u0661", 0, api.ErrForm}, {Modified, "1\x00", 0, api.ErrForm},
	} {
		if n, err := Parse(c.kind, c.s); n != c.n || err != c.want {
			t.Errorf("Parse of %d, %q: %d, %v; want %d, %v", c.kind, c.s, n, err, c.n, c.want)
		}
	}
}

// near yields a text and all texts that have one byte more, one byte less, or another byte.
func near(s string, yield func(s string)) {
	yield(s)
	for i := range len(s) + 1 {
		for b := range 256 {
			yield(s[:i] + string([]byte{byte(b)}) + s[i:])
			if i < len(s) {
				yield(s[:i] + string([]byte{byte(b)}) + s[i+1:])
			}
		}
		yield(s[:i])
		yield(s[i:])
		yield(s[:i] + s[min(i+1, len(s)):])
	}
}

// signed is the form of Parse's texts, five that of ParseFive's.
var (
	signed = regexp.MustCompile(`^[+-]?[0-9]{1,7}\z`)
	five   = regexp.MustCompile(`^[0-9]{5}\z`)
)

// read is the day of a text of a form.
func read(form *regexp.Regexp, kind int, s string) (int64, error) {
	if !form.MatchString(s) {
		return 0, api.ErrForm
	}
	count, _ := strconv.ParseInt(s, 10, 64)
	return Day(kind, count)
}

// P7.1
func TestNearTexts(t *testing.T) {
	for _, s := range []string{"0", "7", "-3657", "+40587", "61360", "99999", "00000", "2440588", "-1930999", "+5373484", "-4375244", "2929239"} {
		near(s, func(s string) {
			for kind := Modified; kind <= Satellite; kind++ {
				want, wantErr := read(signed, kind, s)
				if n, err := Parse(kind, s); n != want || err != wantErr {
					t.Fatalf("Parse of %d, %q: %d, %v; want %d, %v", kind, s, n, err, want, wantErr)
				}
			}
			want, wantErr := read(five, Modified, s)
			if n, err := ParseFive(s); n != want || err != wantErr {
				t.Fatalf("ParseFive of %q: %d, %v; want %d, %v", s, n, err, want, wantErr)
			}
		})
	}
}

// P7.1, P7.2
func TestFive(t *testing.T) {
	for count := range int64(100000) {
		n := epochDay(Modified) + count
		want := fmt.Sprintf("%05d", count)
		if s, err := Five(n); s != want || err != nil {
			t.Fatalf("Five of %d: %q, %v; want %q", n, s, err, want)
		}
		if back, err := ParseFive(want); back != n || err != nil {
			t.Fatalf("ParseFive of %q: %d, %v; want %d", want, back, err, n)
		}
	}
	for n := int64(first); n <= last; n++ {
		if n == -40587 {
			n = 59413 // on which the count is 100000
		}
		if s, err := Five(n); s != "" || err != api.ErrRange {
			t.Fatalf("Five of %d: %q, %v", n, s, err)
		}
	}
}

// P7.1
func TestNoFive(t *testing.T) {
	for _, s := range []string{"", "1", "1234", "123456", "012345", "-1234", "+1234", "-12345", "+12345", "1234x", "x1234", "12 45", " 1234", "1234 ", "12345\n", "12345\x00",
		"99999999999999999999", "999999999999999999999", "-00000", "1234\u0661", "12.45"} {
		if n, err := ParseFive(s); n != 0 || err != api.ErrForm {
			t.Errorf("ParseFive of %q: %d, %v", s, n, err)
		}
	}
}
