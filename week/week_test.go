package week

import (
	"fmt"
	"math"
	"regexp"
	"strconv"
	"testing"
	"time"

	"horologe/api"
)

const (
	first = -4371587 // 1 January -9999, a Monday
	last  = 2932896  // 31 December 9999, a Friday
)

// counted is a day by weeks, moved on day by day.
type counted struct {
	n                   int64
	year, week, weekday int
}

// long tells whether a year has a 29 February.
func long(year int) bool {
	return year%400 == 0 || year%4 == 0 && year%100 != 0
}

// newYear is the weekday of a year's 1 January: it moves on by 1, and by 2 after a leap year, through 400 years that are whole weeks.
func newYear(year int) int {
	cycle := ((year-1)%400 + 400) % 400 // years since one that began on a Monday
	return (cycle+cycle/4-cycle/100)%7 + 1
}

// weeks is how many weeks a year has: 53 if it begins on a Thursday, or on a Wednesday before a 29 February.
func weeks(year int) int {
	if begin := newYear(year); begin == 4 || begin == 3 && long(year) {
		return 53
	}
	return 52
}

// next is the day after.
func (c counted) next() counted {
	c.n++
	c.weekday++
	if c.weekday > 7 {
		c.weekday = 1
		c.week++
	}
	if c.week > weeks(c.year) {
		c.week = 1
		c.year++
	}
	return c
}

// text is a day's text.
func (c counted) text() string {
	if c.year < 0 {
		return fmt.Sprintf("-%04d-W%02d-%d", -c.year, c.week, c.weekday)
	}
	return fmt.Sprintf("%04d-W%02d-%d", c.year, c.week, c.weekday)
}

// extremes are numbers far from all years, with which arithmetic may wrap around.
func extremes() []int {
	list := []int{math.MinInt, math.MinInt + 1, math.MaxInt, math.MaxInt - 1, 1 << 62, -1 << 62}
	for _, shift := range []int{15, 16, 31, 32, 33, 40, 48, 53, 58, 61} {
		power := 1 << shift
		for _, near := range []int{0, 1, 2, 7, 53, 2021} {
			list = append(list, power+near, power-near, -power-near, -power+near)
		}
	}
	return list
}

// noYears are numbers of years that have no weeks.
func noYears() []int {
	return append(extremes(), -10001, -10002, -10400, -19999, -20000, -20001, 10001, 10002, 10400, 19999, 20000, 20001)
}

// oddParts are numbers for a week, or for a weekday.
func oddParts() []int {
	list := extremes()
	for k := -60; k <= 110; k++ {
		list = append(list, k)
	}
	return append(list, 256, 257, 365, 366, 1000)
}

// P6.1, P6.2
func TestEveryDay(t *testing.T) {
	c := counted{n: first, year: -9999, week: 1, weekday: 1}
	for ; c.n <= last; c = c.next() {
		year, week, weekday, err := Of(c.n)
		if year != c.year || week != c.week || weekday != c.weekday || err != nil {
			t.Fatalf("Of of %+v: %d, %d, %d, %v", c, year, week, weekday, err)
		}
		n, err := Day(c.year, c.week, c.weekday)
		if n != c.n || err != nil {
			t.Fatalf("Day of %+v: %d, %v", c, n, err)
		}
	}
	if c.year != 9999 || c.week != 52 || c.weekday != 6 {
		t.Errorf("the day after the last one: %+v", c)
	}
}

// P6.1, P6.2
func TestEveryText(t *testing.T) {
	c := counted{n: first, year: -9999, week: 1, weekday: 1}
	for ; c.n <= last; c = c.next() {
		if c.n%11 != 0 && c.week > 1 && c.week < 52 { // all days where years meet, and some of the others
			continue
		}
		want := c.text()
		s, err := Put(c.n)
		if s != want || err != nil {
			t.Fatalf("Put of %+v: %q, %v", c, s, err)
		}
		n, err := Parse(want)
		if n != c.n || err != nil {
			t.Fatalf("Parse of %q: %d, %v", want, n, err)
		}
	}
}

// P6.1
func TestLibrary(t *testing.T) {
	for n := int64(first); n <= last; n += 3 {
		at := time.Unix(n*86400, 0).UTC()
		wantYear, wantWeek := at.ISOWeek()
		year, week, weekday, err := Of(n)
		if year != wantYear || week != wantWeek || weekday%7 != int(at.Weekday()) || err != nil {
			t.Fatalf("Of of %d: %d, %d, %d, %v; want %d, %d", n, year, week, weekday, err, wantYear, wantWeek)
		}
	}
}

// P6.1
func TestYears(t *testing.T) {
	monday := int64(first) - 52*7 // of year -10000, which has as many weeks as year 2000
	for year := -10000; year <= 10000; year++ {
		n, err := Monday(year)
		if n != monday || err != nil {
			t.Fatalf("Monday of %d: %d, %v; want %d", year, n, err, monday)
		}
		many, err := Weeks(year)
		if many != weeks(year) || err != nil {
			t.Fatalf("Weeks of %d: %d, %v; want %d", year, many, err, weeks(year))
		}
		monday += int64(7 * weeks(year))
	}
	for _, year := range noYears() {
		if n, err := Monday(year); n != 0 || err != api.ErrYear {
			t.Errorf("Monday of %d: %d, %v", year, n, err)
		}
		if n, err := Weeks(year); n != 0 || err != api.ErrYear {
			t.Errorf("Weeks of %d: %d, %v", year, n, err)
		}
	}
}

// P6.1
func TestNoDate(t *testing.T) {
	for _, k := range append(extremes(), first-1, first-7, first-364, last+1, last+2, last+3, last+7, -8024378, 5945743) {
		if first <= k && k <= last {
			continue
		}
		n := int64(k)
		if year, week, weekday, err := Of(n); year != 0 || week != 0 || weekday != 0 || err != api.ErrYear {
			t.Errorf("Of of %d: %d, %d, %d, %v", n, year, week, weekday, err)
		}
		if s, err := Put(n); s != "" || err != api.ErrYear {
			t.Errorf("Put of %d: %q, %v", n, s, err)
		}
	}
}

// P6.1
func TestNoDay(t *testing.T) {
	for _, c := range []struct {
		year, week, weekday int
		want                error
	}{
		{2021, 53, 1, api.ErrRange}, {2020, 54, 1, api.ErrRange}, {2020, 0, 1, api.ErrRange}, {2020, -1, 1, api.ErrRange},
		{2020, 1, 0, api.ErrRange}, {2020, 1, 8, api.ErrRange}, {2020, 53, 8, api.ErrRange}, {2020, 53, 0, api.ErrRange},
		{9999, 52, 6, api.ErrYear}, {9999, 52, 7, api.ErrYear}, {9999, 53, 1, api.ErrRange},
		{10000, 1, 1, api.ErrYear}, {10000, 52, 7, api.ErrYear}, {10000, 53, 1, api.ErrRange}, {10000, 1, 8, api.ErrRange}, {10000, 0, 1, api.ErrRange},
		{-10000, 52, 7, api.ErrYear}, {-10000, 1, 1, api.ErrYear}, {-10000, 53, 1, api.ErrRange}, {-10000, 52, 8, api.ErrRange}, {-10000, 52, 0, api.ErrRange},
		{10001, 0, 0, api.ErrYear}, {-10001, 99, 9, api.ErrYear},
	} {
		if n, err := Day(c.year, c.week, c.weekday); n != 0 || err != c.want {
			t.Errorf("Day of %+v: %d, %v", c, n, err)
		}
	}
	for _, year := range noYears() {
		for _, k := range []int{-1, 0, 1, 52, 54} {
			if n, err := Day(year, k, 1); n != 0 || err != api.ErrYear {
				t.Errorf("Day of %d, %d, 1: %d, %v", year, k, n, err)
			}
			if n, err := Day(year, 1, k); n != 0 || err != api.ErrYear {
				t.Errorf("Day of %d, 1, %d: %d, %v", year, k, n, err)
			}
		}
	}
}

// P6.1
func TestOddParts(t *testing.T) {
	for _, year := range []int{-10000, -9999, -4, 0, 1970, 2020, 2021, 9999, 10000} {
		for _, k := range oddParts() {
			if n, err := Day(year, k, 3); (k < 1 || k > weeks(year)) && (n != 0 || err != api.ErrRange) {
				t.Errorf("Day of %d, %d, 3: %d, %v", year, k, n, err)
			}
			if n, err := Day(year, 7, k); (k < 1 || k > 7) && (n != 0 || err != api.ErrRange) {
				t.Errorf("Day of %d, 7, %d: %d, %v", year, k, n, err)
			}
			if n, err := Day(year, k, 8); n != 0 || err != api.ErrRange {
				t.Errorf("Day of %d, %d, 8: %d, %v", year, k, n, err)
			}
		}
	}
}

// shape is the form of a text, but for -0000 and years that a zero makes longer.
var shape = regexp.MustCompile(`^(-?(?:[0-9]{4}|[1-9][0-9]{4}))-W([0-9]{2})-([0-9])\z`)

// parsed is what Parse is to answer, by the form first and then by Day.
func parsed(s string) (int64, error) {
	parts := shape.FindStringSubmatch(s)
	if parts == nil || parts[1] == "-0000" {
		return 0, api.ErrForm
	}
	year, _ := strconv.Atoi(parts[1])
	week, _ := strconv.Atoi(parts[2])
	weekday, _ := strconv.Atoi(parts[3])
	return Day(year, week, weekday)
}

// P6.1
func TestForms(t *testing.T) {
	for _, c := range []struct {
		s    string
		n    int64
		want error
	}{
		{"2020-W53-5", 18628, nil}, {"1970-W01-4", 0, nil}, {"1970-W01-1", -3, nil}, {"1969-W52-7", -4, nil},
		{"0000-W01-1", -719526, nil}, {"-0001-W52-7", -719527, nil}, {"-9999-W01-1", first, nil}, {"9999-W52-5", last, nil},
		{"9999-W52-6", 0, api.ErrYear}, {"9999-W52-8", 0, api.ErrRange}, {"9999-W53-1", 0, api.ErrRange},
		{"10000-W01-1", 0, api.ErrYear}, {"10000-W53-1", 0, api.ErrRange}, {"-10000-W52-7", 0, api.ErrYear}, {"-10000-W00-1", 0, api.ErrRange},
		{"10001-W99-9", 0, api.ErrYear}, {"99999-W01-1", 0, api.ErrYear}, {"-99999-W01-1", 0, api.ErrYear},
		{"2021-W53-1", 0, api.ErrRange}, {"2021-W00-1", 0, api.ErrRange}, {"2021-W99-1", 0, api.ErrRange},
		{"2021-W01-0", 0, api.ErrRange}, {"2021-W01-8", 0, api.ErrRange}, {"2021-W01-9", 0, api.ErrRange},
		{"-0000-W01-1", 0, api.ErrForm}, {"-0000-W54-9", 0, api.ErrForm}, {"02021-W01-1", 0, api.ErrForm}, {"-02021-W01-1", 0, api.ErrForm},
		{"00000-W01-1", 0, api.ErrForm}, {"-00000-W01-1", 0, api.ErrForm}, {"09999-W01-1", 0, api.ErrForm}, {"100000-W01-1", 0, api.ErrForm},
		{"202-W01-1", 0, api.ErrForm}, {"-202-W01-1", 0, api.ErrForm}, {"+2021-W01-1", 0, api.ErrForm}, {"--2021-W01-1", 0, api.ErrForm},
		{"", 0, api.ErrForm}, {"-", 0, api.ErrForm}, {"2021", 0, api.ErrForm}, {"2021-", 0, api.ErrForm}, {"2021-W", 0, api.ErrForm},
		{"2021-W01", 0, api.ErrForm}, {"2021-W01-", 0, api.ErrForm}, {"2021-W1-1", 0, api.ErrForm}, {"2021-W001-1", 0, api.ErrForm},
		{"2021-W01-11", 0, api.ErrForm}, {"2021-W01-1 ", 0, api.ErrForm}, {" 2021-W01-1", 0, api.ErrForm}, {"2021-W01-1\n", 0, api.ErrForm},
		{"2021-w01-1", 0, api.ErrForm}, {"2021W011", 0, api.ErrForm}, {"2021-W011", 0, api.ErrForm}, {"2021W01-1", 0, api.ErrForm}, {"2021_W01-1", 0, api.ErrForm},
		{"2021-01-1", 0, api.ErrForm}, {"2021-V01-1", 0, api.ErrForm}, {"2021-W01-x", 0, api.ErrForm}, {"2021-W-1-1", 0, api.ErrForm}, {"2021-W01--1", 0, api.ErrForm},
		{"2021-W01-1\x00", 0, api.ErrForm}, {"2021-W01-\xff", 0, api.ErrForm}, {"99999999999999999999-W01-1", 0, api.ErrForm},
	} {
		if n, err := Parse(c.s); n != c.n || err != c.want {
			t.Errorf("Parse of %q: %d, %v", c.s, n, err)
		}
	}
}

// P6.1, P6.2: whatever is read is written as it was.
func TestNearTexts(t *testing.T) {
	for _, s := range []string{"2020-W53-5", "-0001-W52-6", "-9999-W01-1", "10000-W01-1", "0000-W10-7", "9999-W52-4", "-10000-W52-7"} {
		near := []string{s}
		for i := range len(s) + 1 {
			for b := range 256 {
				near = append(near, s[:i]+string([]byte{byte(b)})+s[i:])
				if i < len(s) {
					near = append(near, s[:i]+string([]byte{byte(b)})+s[i+1:])
				}
			}
			near = append(near, s[:i], s[i:], s[:i]+s[min(i+1, len(s)):])
		}
		for _, s := range near {
			want, wantErr := parsed(s)
			n, err := Parse(s)
			if n != want || err != wantErr {
				t.Fatalf("Parse of %q: %d, %v; want %d, %v", s, n, err, want, wantErr)
			}
			if err != nil {
				continue
			}
			if back, err := Put(n); back != s || err != nil {
				t.Fatalf("Put of %d: %q, %v; want %q", n, back, err, s)
			}
		}
	}
}
