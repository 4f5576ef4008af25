package rule

import (
	"fmt"
	"math"
	"regexp"
	"strconv"
	"strings"
	"testing"
	"time"

	"horologe/api"
)

// random makes numbers that look random, the same in each run.
type random uint64

func (r *random) next() uint64 {
	*r ^= *r << 13
	*r ^= *r >> 7
	*r ^= *r << 17
	return uint64(*r)
}

// below is a number from 0 to n - 1.
func (r *random) below(n int) int {
	return int(r.next() % uint64(n))
}

// rule is one of some rules, at a random time.
func (r *random) rule(list []Rule) Rule {
	seconds := r.below(2*604799+1) - 604799
	switch r.below(4) {
	case 0:
		seconds = seconds / 3600 * 3600
	case 1:
		seconds = seconds / 60 * 60
	case 2:
		seconds = 7200
	}
	x := list[r.below(len(list))]
	x.Time = seconds
	return x
}

// days are all rules at time 0.
func days() []Rule {
	var list []Rule
	for d := 1; d <= 365; d++ {
		list = append(list, Rule{Kind: 1, Day: d})
	}
	for d := range 366 {
		list = append(list, Rule{Kind: 2, Day: d})
	}
	for m := 1; m <= 12; m++ {
		for w := 1; w <= 5; w++ {
			for d := range 7 {
				list = append(list, Rule{Kind: 3, Month: m, Week: w, Day: d})
			}
		}
	}
	return list
}

// isLeap tells whether a year is a leap year.
func isLeap(year int) bool {
	return year%400 == 0 || year%4 == 0 && year%100 != 0
}

// lengths are how many days the months of a year have, behind a 0.
func lengths(year int) [13]int {
	l := [13]int{0, 31, 28, 31, 30, 31, 30, 31, 31, 30, 31, 30, 31}
	if isLeap(year) {
		l[2] = 29
	}
	return l
}

// counted is a year whose days are counted one by one.
type counted struct {
	first  int64          // the number of 1 January
	plain  []int64        // all days but 29 February
	all    []int64        // all days
	weekly [13][7][]int64 // by month and weekday, where Sunday is 0
}

// count counts the days of a year that begins on a day with a weekday.
func count(year int, first int64, weekday int) counted {
	c := counted{first: first}
	n := first
	for m, many := range lengths(year) {
		for d := range many {
			c.all = append(c.all, n)
			if m != 2 || d != 28 {
				c.plain = append(c.plain, n)
			}
			c.weekly[m][weekday] = append(c.weekly[m][weekday], n)
			n, weekday = n+1, (weekday+1)%7
		}
	}
	return c
}

// day is a rule's day in the year.
func (c counted) day(r Rule) int64 {
	switch r.Kind {
	case 1:
		return c.plain[r.Day-1]
	case 2:
		return c.first + int64(r.Day)
	}
	list := c.weekly[r.Month][r.Day]
	if r.Week == 5 {
		return list[len(list)-1]
	}
	return list[r.Week-1]
}

// valid tells whether a rule of a known kind has numbers as the chapter says.
func valid(r Rule) bool {
	var most [3]int // of the month, the week and the day
	least := most
	switch r.Kind {
	case 1:
		least, most = [3]int{0, 0, 1}, [3]int{0, 0, 365}
	case 2:
		most = [3]int{0, 0, 365}
	case 3:
		least, most = [3]int{1, 1, 0}, [3]int{12, 5, 6}
	}
	for i, n := range [3]int{r.Month, r.Week, r.Day} {
		if n < least[i] || n > most[i] {
			return false
		}
	}
	return r.Time >= -604799 && r.Time <= 604799
}

// wantCheck is the chapter's error of a rule.
func wantCheck(r Rule) error {
	if r.Kind != 1 && r.Kind != 2 && r.Kind != 3 {
		return api.ErrKind
	}
	if !valid(r) {
		return api.ErrRange
	}
	return nil
}

// wantPut is the chapter's text of a rule.
func wantPut(r Rule) (string, error) {
	if err := wantCheck(r); err != nil {
		return "", err
	}
	s := fmt.Sprintf("M%d.%d.%d", r.Month, r.Week, r.Day)
	switch r.Kind {
	case 1:
		s = fmt.Sprintf("J%d", r.Day)
	case 2:
		s = fmt.Sprintf("%d", r.Day)
	}
	if r.Time != 7200 {
		s += "/" + wantClock(r.Time)
	}
	return s, nil
}

// shape is the form of a rule's text.
var shape = regexp.MustCompile(`^(?:(J?)([0-9]{1,3})|M([0-9]{1,2})\.([0-9])\.([0-9]))(?:/([+-]?[0-9]{1,3}(?::[0-9]{2}(?::[0-9]{2})?)?))?\z`)

// number is that of some digits; there are none in a part of a text that isn't there.
func number(digits string) int {
	n, err := strconv.Atoi("0" + digits)
	if err != nil {
		panic(err)
	}
	return n
}

// wantParse is the chapter's rule of a text.
func wantParse(s string) (Rule, error) {
	parts := shape.FindStringSubmatch(s)
	if parts == nil {
		return Rule{}, api.ErrForm
	}
	r := Rule{Kind: 2, Day: number(parts[2]), Time: 7200}
	switch {
	case parts[1] != "":
		r.Kind = 1
	case parts[2] == "":
		r = Rule{Kind: 3, Month: number(parts[3]), Week: number(parts[4]), Day: number(parts[5]), Time: 7200}
	}
	if parts[6] != "" {
		seconds, err := wantParseClock(parts[6], 167)
		if err != nil {
			return Rule{}, err
		}
		r.Time = seconds
	}
	if err := wantCheck(r); err != nil {
		return Rule{}, err
	}
	return r, nil
}

// parsed holds Parse against the chapter.
func parsed(t *testing.T, s string) {
	t.Helper()
	want, fault := wantParse(s)
	r, err := Parse(s)
	if r != want || err != fault {
		t.Fatalf("Parse of %q: %+v, %v; want %+v, %v", s, r, err, want, fault)
	}
	if err != nil {
		return
	}
	text, err := Put(r)
	if err != nil {
		t.Fatalf("Put of %+v: %v", r, err)
	}
	if again, err := Parse(text); again != r || err != nil {
		t.Fatalf("Parse of %q, once %q: %+v, %v; want %+v", text, s, again, err, r)
	}
}

// near are a text, and all that are one byte away from it.
func near(s string) []string {
	list := []string{s}
	for i := range len(s) + 1 {
		for b := range 256 {
			list = append(list, s[:i]+string([]byte{byte(b)})+s[i:])
			if i < len(s) {
				list = append(list, s[:i]+string([]byte{byte(b)})+s[i+1:])
			}
		}
		list = append(list, s[:i], s[i:], s[:i]+s[min(i+1, len(s)):])
	}
	return list
}

// P16.1: a rule's kind is told before its numbers, each of which has a range of its own.
func TestCheck(t *testing.T) {
	kinds := []int{0, 1, 2, 3, 4, 5, -1, -2, -3, 1 << 32, 1<<32 + 1, math.MinInt, math.MinInt + 1, math.MaxInt}
	months := []int{0, 1, 2, 11, 12, 13, -1, 256, 1<<32 + 1, math.MinInt, math.MaxInt}
	weeks := []int{0, 1, 4, 5, 6, -1, 1<<32 + 1, math.MinInt, math.MaxInt}
	days := []int{0, 1, 5, 6, 7, 8, 60, 364, 365, 366, -1, -365, 1<<32 + 1, math.MinInt, math.MaxInt}
	times := []int{0, 7200, -1, 604798, 604799, 604800, 604801, -604798, -604799, -604800, -604801, 1 << 32, math.MinInt, math.MaxInt}
	for _, kind := range kinds {
		for _, month := range months {
			for _, week := range weeks {
				for _, day := range days {
					for _, seconds := range times {
						checked(t, Rule{kind, month, week, day, seconds})
					}
				}
			}
		}
	}
	if Plain != 1 || Counted != 2 || Weekly != 3 {
		t.Error(Plain, Counted, Weekly)
	}
}

// checked holds Check against the chapter, and the other functions against Check where it has an error.
func checked(t *testing.T, r Rule) {
	t.Helper()
	want := wantCheck(r)
	if err := Check(r); err != want {
		t.Fatalf("Check of %+v: %v; want %v", r, err, want)
	}
	if want == nil {
		return
	}
	for _, year := range []int{2024, -10001, 10002, math.MinInt, math.MaxInt} {
		if n, err := Day(r, year); n != 0 || err != want {
			t.Fatalf("Day of %+v in %d: %d, %v; want %v", r, year, n, err, want)
		}
		if n, err := At(r, year); n != 0 || err != want {
			t.Fatalf("At of %+v in %d: %d, %v; want %v", r, year, n, err, want)
		}
	}
	if s, err := Put(r); s != "" || err != want {
		t.Fatalf("Put of %+v: %q, %v; want %v", r, s, err, want)
	}
}

// P16.1: each rule has the day that the chapter says in each year, where days are counted one by one.
func TestDay(t *testing.T) {
	list := days()
	first, weekday := int64(-4372318), 5 // 1 January -10001, a Friday
	for year := -10001; year <= 10001; year++ {
		c := count(year, first, weekday)
		if year == 1970 && (first != 0 || weekday != 4) {
			t.Fatal("1970 begins on day", first, "with weekday", weekday)
		}
		whole := year < -9990 || year > 9990 || year >= 1890 && year < 2110 // else every seventh rule
		for i, r := range list {
			if !whole && (i+year)%7 != 0 {
				continue
			}
			if n, err := Day(r, year); n != c.day(r) || err != nil {
				t.Fatalf("Day of %+v in %d: %d, %v; want %d", r, year, n, err, c.day(r))
			}
		}
		first, weekday = first+int64(len(c.all)), (weekday+len(c.all))%7
	}
}

// P16.1: a rule's day doesn't depend on its time, and its second is that of the day and the time.
func TestAt(t *testing.T) {
	r, list := random(16), days()
	for range 200000 {
		x, year := r.rule(list), r.below(20003)-10001
		at, err := At(x, year)
		if err != nil {
			t.Fatalf("At of %+v in %d: %v", x, year, err)
		}
		early := x
		early.Time = 0
		n, err := Day(early, year)
		if late, fault := Day(x, year); late != n || err != nil || fault != nil {
			t.Fatalf("Day of %+v in %d: %d, %v; at time 0 %d, %v", x, year, late, fault, n, err)
		}
		if want := 86400*n + int64(x.Time); at != want {
			t.Fatalf("At of %+v in %d: %d; want %d", x, year, at, want)
		}
	}
}

// P16.1: days and seconds by hand, by the library's calendar.
func TestByHand(t *testing.T) {
	for _, c := range []struct {
		text string
		year int
		at   string // in Universal Time
	}{
		{"M3.2.0", 2024, "2024-03-10T02:00:00Z"}, // the chapter's example
		{"M11.1.0", 2024, "2024-11-03T02:00:00Z"},
		{"M3.5.0/1", 2024, "2024-03-31T01:00:00Z"},
		{"M10.5.0/1", 2026, "2026-10-25T01:00:00Z"},
		{"M9.5.6/24", 2023, "2023-10-01T00:00:00Z"},
		{"M3.4.4/50", 2024, "2024-03-30T02:00:00Z"},
		{"M3.5.0/-2", 2024, "2024-03-30T22:00:00Z"},
		{"M2.4.4", 2024, "2024-02-22T02:00:00Z"}, // a month with five such days
		{"M2.5.4", 2024, "2024-02-29T02:00:00Z"},
		{"M2.5.4", 2023, "2023-02-23T02:00:00Z"},
		{"M2.5.0/0", 2100, "2100-02-28T00:00:00Z"},
		{"M1.1.1/0", 2024, "2024-01-01T00:00:00Z"},
		{"M1.1.0/0", 2024, "2024-01-07T00:00:00Z"},
		{"M12.5.2/0", 2024, "2024-12-31T00:00:00Z"},
		{"J1/0", 2024, "2024-01-01T00:00:00Z"},
		{"J59/0", 2024, "2024-02-28T00:00:00Z"},
		{"J60/0", 2024, "2024-03-01T00:00:00Z"},
		{"J60/0", 2023, "2023-03-01T00:00:00Z"},
		{"J60/-0:00:01", 2024, "2024-02-29T23:59:59Z"},
		{"J365/167:59:59", 2024, "2025-01-06T23:59:59Z"},
		{"0/-167:59:59", 2024, "2023-12-25T00:00:01Z"},
		{"58/0", 2024, "2024-02-28T00:00:00Z"},
		{"59/0", 2024, "2024-02-29T00:00:00Z"},
		{"59/0", 1900, "1900-03-01T00:00:00Z"},
		{"59/0", 2000, "2000-02-29T00:00:00Z"},
		{"365/0", 2024, "2024-12-31T00:00:00Z"},
		{"365/0", 2023, "2024-01-01T00:00:00Z"},
		{"59/0", 0, "0000-02-29T00:00:00Z"},
		{"J365/0", 9999, "9999-12-31T00:00:00Z"},
	} {
		at, err := time.Parse(time.RFC3339, c.at)
		if err != nil {
			t.Fatal(err)
		}
		r, err := Parse(c.text)
		if err != nil {
			t.Fatal(c, err)
		}
		if n, err := At(r, c.year); n != at.Unix() || err != nil {
			t.Error(c, n, err, at.Unix())
		}
	}
}

// P16.1: years beyond those with dates have days as well, up to 10001; others are told after a wrong rule.
func TestYears(t *testing.T) {
	r := Rule{Kind: Counted}
	for _, year := range []int{-10001, -10000, -9999, -1, 0, 1, 9999, 10000, 10001} {
		want := time.Date(year, 1, 1, 0, 0, 0, 0, time.UTC).Unix() / 86400
		if n, err := Day(r, year); n != want || err != nil {
			t.Error(year, n, err, want)
		}
		if n, err := At(r, year); n != want*86400 || err != nil {
			t.Error(year, n, err, want)
		}
	}
	for _, x := range []Rule{r, {Kind: Plain, Day: 60, Time: 5}, {Kind: Weekly, Month: 2, Week: 5}} {
		for _, year := range []int{-10002, 10002, -10400, 10400, -20000, 20000, -20001, 20001, 1 << 31, 1 << 32, 1<<32 + 2024, math.MinInt, math.MinInt + 1, math.MaxInt} {
			if n, err := Day(x, year); n != 0 || err != api.ErrYear {
				t.Error(x, year, n, err)
			}
			if n, err := At(x, year); n != 0 || err != api.ErrYear {
				t.Error(x, year, n, err)
			}
		}
	}
}

// P16.1, P16.2: each rule has its text, which is read as the rule.
func TestThereAndBack(t *testing.T) {
	for _, r := range days() {
		for _, seconds := range []int{0, 7200, -7200, 3600, 1, -1, 7201, 60, -60, 5405, 604799, -604799} {
			r.Time = seconds
			thereAndBack(t, r)
		}
	}
	r, list := random(1616), days()
	for range 100000 {
		thereAndBack(t, r.rule(list))
	}
}

// thereAndBack holds the text of a rule against the chapter's, and the rule of the text against the rule.
func thereAndBack(t *testing.T, r Rule) {
	t.Helper()
	want, fault := wantPut(r)
	s, err := Put(r)
	if s != want || err != fault || err != nil {
		t.Fatalf("Put of %+v: %q, %v; want %q, %v", r, s, err, want, fault)
	}
	if back, err := Parse(s); back != r || err != nil {
		t.Fatalf("Parse of %q: %+v, %v; want %+v", s, back, err, r)
	}
}

// P16.1: what is accepted as a rule's text, and which error is told, by hand.
func TestForms(t *testing.T) {
	for _, c := range []struct {
		s    string
		want Rule
		err  error
	}{
		{"J1", Rule{1, 0, 0, 1, 7200}, nil},
		{"J001", Rule{1, 0, 0, 1, 7200}, nil},
		{"J365", Rule{1, 0, 0, 365, 7200}, nil},
		{"0", Rule{2, 0, 0, 0, 7200}, nil},
		{"000", Rule{2, 0, 0, 0, 7200}, nil},
		{"365", Rule{2, 0, 0, 365, 7200}, nil},
		{"M1.1.0", Rule{3, 1, 1, 0, 7200}, nil},
		{"M01.5.6", Rule{3, 1, 5, 6, 7200}, nil},
		{"M12.5.6/2", Rule{3, 12, 5, 6, 7200}, nil},
		{"J1/02:00:00", Rule{1, 0, 0, 1, 7200}, nil},
		{"J1/+2", Rule{1, 0, 0, 1, 7200}, nil},
		{"J1/-0", Rule{1, 0, 0, 1, 0}, nil},
		{"J1/-0:00:01", Rule{1, 0, 0, 1, -1}, nil},
		{"J1/-167:59:59", Rule{1, 0, 0, 1, -604799}, nil},
		{"J1/167:59:59", Rule{1, 0, 0, 1, 604799}, nil},
		{"J1/007", Rule{1, 0, 0, 1, 25200}, nil},
		{"J0", Rule{}, api.ErrRange},
		{"J366", Rule{}, api.ErrRange},
		{"J999", Rule{}, api.ErrRange},
		{"366", Rule{}, api.ErrRange},
		{"M0.1.1", Rule{}, api.ErrRange},
		{"M13.1.1", Rule{}, api.ErrRange},
		{"M99.9.9/999:99:99", Rule{}, api.ErrRange},
		{"M1.0.1", Rule{}, api.ErrRange},
		{"M1.6.1", Rule{}, api.ErrRange},
		{"M1.1.7", Rule{}, api.ErrRange},
		{"1/168", Rule{}, api.ErrRange},
		{"1/-168", Rule{}, api.ErrRange},
		{"1/999", Rule{}, api.ErrRange},
		{"1/0:60", Rule{}, api.ErrRange},
		{"1/0:00:60", Rule{}, api.ErrRange},
		{"1/0:59:99", Rule{}, api.ErrRange},
		{"", Rule{}, api.ErrForm},
		{"J", Rule{}, api.ErrForm},
		{"M", Rule{}, api.ErrForm},
		{"J1000", Rule{}, api.ErrForm},
		{"J0001", Rule{}, api.ErrForm},
		{"0000", Rule{}, api.ErrForm},
		{"M001.1.1", Rule{}, api.ErrForm},
		{"M1.01.1", Rule{}, api.ErrForm},
		{"M1.1.01", Rule{}, api.ErrForm},
		{"M1", Rule{}, api.ErrForm},
		{"M1.1", Rule{}, api.ErrForm},
		{"M1.1.", Rule{}, api.ErrForm},
		{"M.1.1", Rule{}, api.ErrForm},
		{"M1..1", Rule{}, api.ErrForm},
		{"M1,1,1", Rule{}, api.ErrForm},
		{"M1.1.1.1", Rule{}, api.ErrForm},
		{"MJ1", Rule{}, api.ErrForm},
		{"JM1.1.1", Rule{}, api.ErrForm},
		{"JJ1", Rule{}, api.ErrForm},
		{"j1", Rule{}, api.ErrForm}, // one case alone
		{"m1.1.1", Rule{}, api.ErrForm},
		{"-1", Rule{}, api.ErrForm},
		{"+1", Rule{}, api.ErrForm},
		{"J-1", Rule{}, api.ErrForm},
		{"J+1", Rule{}, api.ErrForm},
		{"M-1.1.1", Rule{}, api.ErrForm},
		{" 1", Rule{}, api.ErrForm},
		{"1 ", Rule{}, api.ErrForm},
		{"1\n", Rule{}, api.ErrForm},
		{"1\x00", Rule{}, api.ErrForm},
		{"1,", Rule{}, api.ErrForm},
		{"/2", Rule{}, api.ErrForm},
		{"1/", Rule{}, api.ErrForm},
		{"1/-", Rule{}, api.ErrForm},
		{"1/+-1", Rule{}, api.ErrForm},
		{"1/--1", Rule{}, api.ErrForm},
		{"1/0001", Rule{}, api.ErrForm},
		{"1/1:", Rule{}, api.ErrForm},
		{"1/1:1", Rule{}, api.ErrForm},
		{"1/1:001", Rule{}, api.ErrForm},
		{"1/1:01:", Rule{}, api.ErrForm},
		{"1/1:01:1", Rule{}, api.ErrForm},
		{"1/1:01:001", Rule{}, api.ErrForm},
		{"1/1:01:01:01", Rule{}, api.ErrForm},
		{"1/2/3", Rule{}, api.ErrForm},
		{"J0/x", Rule{}, api.ErrForm}, // the form before all numbers
		{"M99.9.9/", Rule{}, api.ErrForm},
		{"366/999:99:9", Rule{}, api.ErrForm},
		{"J366 ", Rule{}, api.ErrForm},
		{"\xef\xbc\x91", Rule{}, api.ErrForm}, // a digit, but not one of the ten
	} {
		if r, err := Parse(c.s); r != c.want || err != c.err {
			t.Errorf("Parse of %q: %+v, %v; want %+v, %v", c.s, r, err, c.want, c.err)
		}
		if r, err := wantParse(c.s); r != c.want || err != c.err {
			t.Errorf("the measure of %q: %+v, %v; want %+v, %v", c.s, r, err, c.want, c.err)
		}
	}
}

// P16.1, P16.2: whatever is one byte away from a text is read as the chapter says.
func TestNearTexts(t *testing.T) {
	for _, s := range []string{"J1", "J60", "J365/0", "0", "59", "365/-1:30", "M3.2.0", "M10.5.6/25", "M03.1.1/+167:59:59", "12/3:04:05", "J100/007:00"} {
		for _, s := range near(s) {
			parsed(t, s)
		}
	}
}

// P16.1, P16.2: short texts of a rule's own bytes, and long ones made of such pieces, are read as the chapter says.
func TestPieces(t *testing.T) {
	const bytes = "JM./:-+037x"
	list := []string{""}
	for from, end := 0, 0; len(list[from]) < 4; from = end {
		end = len(list)
		for _, s := range list[from:end] {
			for i := range bytes {
				list = append(list, s+bytes[i:i+1])
			}
		}
	}
	for _, s := range list {
		parsed(t, s)
		parsed(t, "M"+s)
		parsed(t, "M3."+s)
		parsed(t, "J12/1"+s)
	}
	r := random(161616)
	pieces := []string{"J", "M", ".", ".", "/", "/", ":", ":", "-", "+", "0", "1", "5", "6", "12", "59", "60", "99", "167", "168", "365", "366", " "}
	for range 200000 {
		s := ""
		for range 1 + r.below(11) {
			s += pieces[r.below(len(pieces))]
		}
		parsed(t, s)
	}
	for _, s := range []string{"J", "M", "1", "0", ".", "/", "-", "1/", "M1.1.1/", "J1/1:"} {
		parsed(t, s+strings.Repeat("0", 100000))
		parsed(t, strings.Repeat(s, 100000))
	}
}

// P16.3: a weekly rule's day is such a weekday of the month, the Week-th or the last, by the library's calendar.
func TestWeekly(t *testing.T) {
	years := []int{-10001, -10000, -9999, -400, -100, -4, -1, 0, 1, 1600, 9999, 10000, 10001}
	for year := 1800; year <= 2200; year++ {
		years = append(years, year)
	}
	for _, year := range years {
		for _, r := range days() {
			if r.Kind != Weekly {
				continue
			}
			n, err := Day(r, year)
			if err != nil {
				t.Fatal(r, year, err)
			}
			at := time.Unix(n*86400, 0).UTC()
			before := (at.Day() - 1) / 7 // such days of the month that are before it
			after := (lengths(year)[r.Month] - at.Day()) / 7
			if at.Year() != year || int(at.Month()) != r.Month || int(at.Weekday()) != r.Day {
				t.Fatalf("%+v in %d: %v", r, year, at)
			}
			if r.Week < 5 && before != r.Week-1 || r.Week == 5 && after != 0 {
				t.Fatalf("%+v in %d: %v, with %d before and %d after", r, year, at, before, after)
			}
		}
	}
}
