package day

import (
	"math"
	"testing"
	"time"

	"horologe/api"
)

// calendar is a date with all that is known of it, moved on day by day.
type calendar struct {
	year, month, day int
	yearDay, weekday int
	n                int64
}

// first is the first date: 25 cycles of 146097 days, which are whole weeks, before 1 January 1, a Monday and day -719162.
func first() calendar {
	return calendar{year: -9999, month: 1, day: 1, yearDay: 1, weekday: 1, n: -4371587}
}

// last is the number of 31 December 9999.
const last = 2932896

// long tells whether a year has a 29 February, by its last digits.
func long(year int) bool {
	if year < 0 {
		year = -year
	}
	if year%100 != 0 {
		year %= 100
	} else {
		year = year / 100 % 100
	}
	return year%4 == 0
}

// length is how many days a month has.
func length(year, month int) int {
	switch month {
	case 4, 6, 9, 11:
		return 30
	case 2:
		if long(year) {
			return 29
		}
		return 28
	}
	return 31
}

// next is the day after.
func (c calendar) next() calendar {
	c.n++
	c.day++
	c.yearDay++
	c.weekday++
	if c.weekday > 7 {
		c.weekday = 1
	}
	if c.day > length(c.year, c.month) {
		c.day = 1
		c.month++
	}
	if c.month > 12 {
		c.month = 1
		c.yearDay = 1
		c.year++
	}
	return c
}

// extremes are numbers far from all years, with which arithmetic may wrap around.
func extremes() []int {
	list := []int{math.MinInt, math.MinInt + 1, math.MaxInt, math.MaxInt - 1, 1 << 62, -1 << 62}
	for _, shift := range []int{16, 31, 32, 33, 40, 48, 53, 58, 61} {
		power := 1 << shift
		list = append(list, power, power+1, power-1, power+2000, -power, -power-1, -power+1, -power+2000)
	}
	return list
}

// years are some years of each kind, and the edges of their range.
func years() []int {
	return []int{-9999, -9998, -9996, -9900, -9600, -2000, -1900, -401, -400, -399, -101, -100, -99, -5, -4, -3, -2, -1, 0, 1, 2, 3, 4, 5, 99, 100, 101, 399, 400, 401, 1600, 1700, 1800, 1900, 1969, 1970, 1999, 2000, 2001, 2023, 2024, 2100, 2400, 9600, 9900, 9996, 9998, 9999}
}

// noYears are numbers of which dates know nothing.
func noYears() []int {
	return append(extremes(), -10000, -10001, -10004, -10400, -19999, -20000, -20001, 10000, 10001, 10004, 10400, 19999, 20000, 20001)
}

// oddParts are numbers for a month, or for a day.
func oddParts() []int {
	list := extremes()
	for k := -40; k <= 40; k++ {
		list = append(list, k)
	}
	return append(list, 59, 60, 99, 100, 365, 366, 367)
}

// P5.1, P5.2
func TestEveryDate(t *testing.T) {
	c := first()
	for ; c.year <= 9999; c = c.next() {
		n, err := Of(c.year, c.month, c.day)
		if n != c.n || err != nil {
			t.Fatalf("Of of %+v: %d, %v", c, n, err)
		}
		year, month, day, err := Date(c.n)
		if year != c.year || month != c.month || day != c.day || err != nil {
			t.Fatalf("Date of %+v: %d, %d, %d, %v", c, year, month, day, err)
		}
		if weekday := Weekday(c.n); weekday != c.weekday {
			t.Fatalf("Weekday of %+v: %d", c, weekday)
		}
		k, err := YearDay(c.year, c.month, c.day)
		if k != c.yearDay || err != nil {
			t.Fatalf("YearDay of %+v: %d, %v", c, k, err)
		}
		n, err = FromYearDay(c.year, c.yearDay)
		if n != c.n || err != nil {
			t.Fatalf("FromYearDay of %+v: %d, %v", c, n, err)
		}
	}
	if c.n != last+1 {
		t.Errorf("the dates end before day %d", c.n)
	}
}

// P5.1
func TestKnownDays(t *testing.T) {
	for _, c := range []calendar{
		{-9999, 1, 1, 1, 1, -4371587},
		{-4713, 11, 24, 328, 1, -2440588},
		{-4, 2, 29, 60, 4, -720930},
		{-1, 12, 31, 365, 5, -719529},
		{0, 1, 1, 1, 6, -719528},
		{0, 2, 29, 60, 2, -719469},
		{1, 1, 1, 1, 1, -719162},
		{1582, 10, 15, 288, 5, -141427},
		{1858, 11, 17, 321, 3, -40587},
		{1900, 1, 1, 1, 1, -25567},
		{1900, 3, 1, 60, 4, -25508},
		{1969, 12, 31, 365, 3, -1},
		{1970, 1, 1, 1, 4, 0},
		{1980, 1, 6, 6, 7, 3657},
		{2000, 2, 29, 60, 2, 11016},
		{2000, 3, 1, 61, 3, 11017},
		{2024, 12, 31, 366, 2, 20088},
		{2100, 3, 1, 60, 1, 47541},
		{9999, 12, 31, 365, 5, 2932896},
	} {
		if n, err := Of(c.year, c.month, c.day); n != c.n || err != nil {
			t.Errorf("Of of %+v: %d, %v", c, n, err)
		}
		if year, month, day, err := Date(c.n); year != c.year || month != c.month || day != c.day || err != nil {
			t.Errorf("Date of %+v: %d, %d, %d, %v", c, year, month, day, err)
		}
		if k, err := YearDay(c.year, c.month, c.day); k != c.yearDay || err != nil {
			t.Errorf("YearDay of %+v: %d, %v", c, k, err)
		}
		if n, err := FromYearDay(c.year, c.yearDay); n != c.n || err != nil {
			t.Errorf("FromYearDay of %+v: %d, %v", c, n, err)
		}
		if weekday := Weekday(c.n); weekday != c.weekday {
			t.Errorf("Weekday of %+v: %d", c, weekday)
		}
	}
}

// P5.1
func TestLeap(t *testing.T) {
	for year := -30000; year <= 30000; year++ {
		if Leap(year) != long(year) {
			t.Errorf("Leap(%d): %t", year, Leap(year))
		}
	}
	for year, want := range map[int]bool{
		math.MinInt:           true, // ends on 5808
		math.MinInt + 1:       false,
		math.MinInt + 4:       true,
		-9223372036854775800:  false,
		-9223372036854775600:  true,
		math.MaxInt:           false, // ends on 5807
		math.MaxInt - 3:       true,
		9223372036854775800:   false,
		9223372036854775600:   true,
		1 << 32:               true, // ends on 7296
		1<<32 + 4:             false,
		1<<32 + 2004:          false,
		1<<32 + 2000 + 4 + 4:  true,
		-(1 << 32) - 4:        false,
		-(1 << 32) - 604:      false, // ends on 7900
		-(1 << 32) - 704:      true,  // ends on 8000
		100_000_000_000:       true,
		100_000_000_100:       false,
		-100_000_000_100:      false,
		-100_000_000_000 + 96: true,
	} {
		if Leap(year) != want {
			t.Errorf("Leap(%d): %t", year, Leap(year))
		}
	}
}

// P5.1
func TestDaysAndMonth(t *testing.T) {
	for year := api.MinYear; year <= api.MaxYear; year++ {
		total := 0
		for month := 1; month <= 12; month++ {
			want := length(year, month)
			if many, err := Month(year, month); many != want || err != nil {
				t.Errorf("Month(%d, %d): %d, %v; want %d", year, month, many, err, want)
			}
			total += want
		}
		if many, err := Days(year); many != total || err != nil {
			t.Errorf("Days(%d): %d, %v; want %d", year, many, err, total)
		}
	}
}

// P5.1
func TestStart(t *testing.T) {
	for year := -20000; year <= 20000; year++ {
		want := time.Date(year, 1, 1, 0, 0, 0, 0, time.UTC).Unix() / api.DaySeconds
		if n, err := Start(year); n != want || err != nil {
			t.Errorf("Start(%d): %d, %v; want %d", year, n, err, want)
		}
	}
	for _, year := range append(extremes(), -20001, -20004, -20400, 20001, 20004, 20400) {
		if n, err := Start(year); n != 0 || err != api.ErrYear {
			t.Errorf("Start(%d): %d, %v; want 0, ErrYear", year, n, err)
		}
	}
}

// P5.1
func TestFirstAndLast(t *testing.T) {
	if n := First(); n != first().n {
		t.Errorf("First: %d", n)
	}
	if n := Last(); n != last {
		t.Errorf("Last: %d", n)
	}
}

// P5.1
func TestNoYear(t *testing.T) {
	for _, year := range noYears() {
		if many, err := Days(year); many != 0 || err != api.ErrYear {
			t.Errorf("Days(%d): %d, %v", year, many, err)
		}
		for _, part := range oddParts() {
			if many, err := Month(year, part); many != 0 || err != api.ErrYear {
				t.Errorf("Month(%d, %d): %d, %v", year, part, many, err)
			}
			if n, err := FromYearDay(year, part); n != 0 || err != api.ErrYear {
				t.Errorf("FromYearDay(%d, %d): %d, %v", year, part, n, err)
			}
			checkNoDate(t, year, part, 1, api.ErrYear)
			checkNoDate(t, year, 1, part, api.ErrYear)
			checkNoDate(t, year, part, part, api.ErrYear)
		}
	}
}

// P5.1
func TestNoMonthOrDay(t *testing.T) {
	for _, year := range years() {
		for _, month := range oddParts() {
			if month < 1 || month > 12 {
				if many, err := Month(year, month); many != 0 || err != api.ErrRange {
					t.Errorf("Month(%d, %d): %d, %v", year, month, many, err)
				}
				checkNoDate(t, year, month, 1, api.ErrRange)
				checkNoDate(t, year, month, 0, api.ErrRange)
				continue
			}
			for _, day := range oddParts() {
				if day < 1 || day > length(year, month) {
					checkNoDate(t, year, month, day, api.ErrRange)
				}
			}
		}
	}
}

// checkNoDate holds that what asks for a date has an error, and nothing else.
func checkNoDate(t *testing.T, year, month, day int, want error) {
	t.Helper()
	if n, err := Of(year, month, day); n != 0 || err != want {
		t.Errorf("Of(%d, %d, %d): %d, %v; want 0, %v", year, month, day, n, err, want)
	}
	if k, err := YearDay(year, month, day); k != 0 || err != want {
		t.Errorf("YearDay(%d, %d, %d): %d, %v; want 0, %v", year, month, day, k, err, want)
	}
}

// P5.1
func TestFromNoYearDay(t *testing.T) {
	for _, year := range years() {
		many := 365
		if long(year) {
			many = 366
		}
		for _, k := range append(oddParts(), many+1) {
			n, err := FromYearDay(year, k)
			if (k < 1 || k > many) && (n != 0 || err != api.ErrRange) {
				t.Errorf("FromYearDay(%d, %d): %d, %v", year, k, n, err)
			}
		}
		if n, err := FromYearDay(year, many); err != nil || n < first().n || n > last {
			t.Errorf("FromYearDay(%d, %d): %d, %v", year, many, n, err)
		}
	}
}

// P5.1
func TestNoDate(t *testing.T) {
	list := []int64{first().n - 1, first().n - 2, first().n - 366, last + 1, last + 2, last + 366, -8024378, -8024379, 6585444, math.MinInt64, math.MaxInt64}
	for _, shift := range []int{23, 31, 32, 33, 48, 53, 62} {
		power := int64(1) << shift
		list = append(list, power, power+1, power+11017, -power, -power-1, -power-11017)
	}
	for _, n := range list {
		if year, month, day, err := Date(n); year != 0 || month != 0 || day != 0 || err != api.ErrYear {
			t.Errorf("Date(%d): %d, %d, %d, %v", n, year, month, day, err)
		}
	}
}

// P5.1
func TestWeekdayOfAnyNumber(t *testing.T) {
	for n, want := range map[int64]int{
		math.MinInt64:     3, // 2^63 is 7 times something and 1, so this is the day before one like day 0
		math.MinInt64 + 1: 4,
		math.MinInt64 + 4: 7,
		math.MinInt64 + 5: 1,
		math.MaxInt64:     4,
		math.MaxInt64 - 1: 3,
		math.MaxInt64 - 3: 1,
		math.MaxInt64 - 4: 7,
		1 << 32:           1, // 2^32 is 7 times something and 4
		-1 << 32:          7,
	} {
		if weekday := Weekday(n); weekday != want {
			t.Errorf("Weekday(%d): %d; want %d", n, weekday, want)
		}
	}
	for _, from := range []int64{math.MinInt64, -1 << 62, first().n - 100, -100, last - 100, 1 << 62, math.MaxInt64 - 200} {
		for n := from; n < from+200; n++ {
			if today, tomorrow := Weekday(n), Weekday(n+1); today < 1 || today > 7 || tomorrow != today%7+1 {
				t.Errorf("Weekday(%d): %d, and then %d", n, today, tomorrow)
			}
		}
	}
}

// P5.1, P5.2
func TestAgainstLibrary(t *testing.T) {
	for n := first().n; n <= last; n += 997 {
		at := time.Unix(n*api.DaySeconds, 0).UTC()
		weekday := (int(at.Weekday())+6)%7 + 1
		if year, month, day, err := Date(n); year != at.Year() || month != int(at.Month()) || day != at.Day() || err != nil {
			t.Errorf("Date(%d): %d, %d, %d, %v; want %v", n, year, month, day, err, at)
		}
		if k, err := YearDay(at.Year(), int(at.Month()), at.Day()); k != at.YearDay() || err != nil {
			t.Errorf("YearDay of %v: %d, %v", at, k, err)
		}
		if Weekday(n) != weekday {
			t.Errorf("Weekday(%d): %d; want %d", n, Weekday(n), weekday)
		}
	}
}
