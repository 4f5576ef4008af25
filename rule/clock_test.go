package rule

import (
	"fmt"
	"math"
	"math/big"
	"regexp"
	"strings"
	"testing"

	"horologe/api"
)

// wantClock is the chapter's text of seconds.
func wantClock(seconds int) string {
	s := ""
	if seconds < 0 {
		s, seconds = "-", -seconds
	}
	s += fmt.Sprint(seconds / 3600)
	switch {
	case seconds%60 != 0:
		return fmt.Sprintf("%s:%02d:%02d", s, seconds/60%60, seconds%60)
	case seconds%3600 != 0:
		return fmt.Sprintf("%s:%02d", s, seconds/60%60)
	}
	return s
}

// wantPutClock is the chapter's text of seconds, or its error.
func wantPutClock(seconds, most int) (string, error) {
	if most < 0 || most > 999 {
		return "", api.ErrRange
	}
	size := new(big.Int).Abs(big.NewInt(int64(seconds))) // since the lowest number has none without a sign
	if size.Quo(size, big.NewInt(3600)).Cmp(big.NewInt(int64(most))) > 0 {
		return "", api.ErrRange
	}
	return wantClock(seconds), nil
}

// clockShape is the form of a clock time's text.
var clockShape = regexp.MustCompile(`^([+-]?)([0-9]{1,3})(?::([0-9]{2})(?::([0-9]{2}))?)?\z`)

// wantParseClock is the chapter's seconds of a text.
func wantParseClock(s string, most int) (int, error) {
	if most < 0 || most > 999 {
		return 0, api.ErrRange
	}
	parts := clockShape.FindStringSubmatch(s)
	if parts == nil {
		return 0, api.ErrForm
	}
	h, m, sec := number(parts[2]), number(parts[3]), number(parts[4])
	if h > most || m > 59 || sec > 59 {
		return 0, api.ErrRange
	}
	if parts[1] == "-" {
		return -(h*3600 + m*60 + sec), nil
	}
	return h*3600 + m*60 + sec, nil
}

// clockParsed holds ParseClock against the chapter.
func clockParsed(t *testing.T, s string) {
	t.Helper()
	for _, most := range []int{0, 1, 24, 167, 999, -1, 1000} {
		want, fault := wantParseClock(s, most)
		seconds, err := ParseClock(s, most)
		if seconds != want || err != fault {
			t.Fatalf("ParseClock of %q, at most %d: %d, %v; want %d, %v", s, most, seconds, err, want, fault)
		}
		if err != nil {
			continue
		}
		text, err := PutClock(seconds, most)
		if err != nil {
			t.Fatalf("PutClock of %d, at most %d: %v", seconds, most, err)
		}
		if again, err := ParseClock(text, most); again != seconds || err != nil {
			t.Fatalf("ParseClock of %q, once %q: %d, %v; want %d", text, s, again, err, seconds)
		}
	}
}

// P16.1, P16.2: all seconds of at most so many hours have their texts, which are read as them.
func TestClocks(t *testing.T) {
	for _, most := range []int{0, 1, 24, 167, 999} {
		end, step := 3600*(most+1), 1
		if most > 24 {
			step = 7
		}
		for seconds := -end - 3600; seconds <= end+3600; seconds += step {
			clockThereAndBack(t, seconds, most)
		}
		for d := -2; d <= 2; d++ {
			clockThereAndBack(t, end+d, most)
			clockThereAndBack(t, -end+d, most)
			clockThereAndBack(t, d, most)
		}
	}
}

// clockThereAndBack holds PutClock against the chapter, and ParseClock against PutClock.
func clockThereAndBack(t *testing.T, seconds, most int) {
	t.Helper()
	want, fault := wantPutClock(seconds, most)
	s, err := PutClock(seconds, most)
	if s != want || err != fault {
		t.Fatalf("PutClock of %d, at most %d: %q, %v; want %q, %v", seconds, most, s, err, want, fault)
	}
	if err != nil {
		return
	}
	if back, err := ParseClock(s, most); back != seconds || err != nil {
		t.Fatalf("ParseClock of %q, at most %d: %d, %v; want %d", s, most, back, err, seconds)
	}
}

// P16.1: seconds and limits of all sizes.
func TestClockEdges(t *testing.T) {
	limits := []int{0, 1, 2, 23, 24, 25, 166, 167, 168, 998, 999, 1000, 1001, -1, -2, -999, 1 << 31, 1 << 32, 1<<32 + 24, math.MinInt, math.MinInt + 1, math.MaxInt - 1, math.MaxInt}
	list := []int{0, math.MinInt, math.MinInt + 1, math.MaxInt - 1, math.MaxInt, 1 << 32, 1<<32 + 5, -1 << 32}
	for _, hours := range []int{0, 1, 2, 3, 23, 24, 25, 26, 99, 100, 166, 167, 168, 169, 998, 999, 1000, 1001} {
		for _, rest := range []int{0, 1, 59, 60, 61, 600, 3540, 3599} {
			list = append(list, hours*3600+rest, -hours*3600-rest)
		}
	}
	for _, most := range limits {
		for _, seconds := range list {
			clockThereAndBack(t, seconds, most)
		}
	}
}

// P16.1: the texts of clock times, by hand.
func TestClockTexts(t *testing.T) {
	for _, c := range []struct {
		seconds, most int
		text          string
		err           error
	}{
		{0, 0, "0", nil},
		{-1, 0, "-0:00:01", nil},
		{1, 0, "0:00:01", nil},
		{60, 0, "0:01", nil},
		{-60, 0, "-0:01", nil},
		{3599, 0, "0:59:59", nil},
		{-3599, 0, "-0:59:59", nil},
		{3600, 0, "", api.ErrRange},
		{-3600, 0, "", api.ErrRange},
		{3600, 1, "1", nil},
		{3605, 1, "1:00:05", nil},
		{-5400, 24, "-1:30", nil},
		{36000, 24, "10", nil},
		{89999, 24, "24:59:59", nil},
		{90000, 24, "", api.ErrRange},
		{360000, 167, "100", nil},
		{-3599999, 999, "-999:59:59", nil},
		{3600000, 999, "", api.ErrRange},
		{0, -1, "", api.ErrRange},
		{0, 1000, "", api.ErrRange},
		{math.MinInt, 999, "", api.ErrRange},
		{math.MaxInt, 999, "", api.ErrRange},
	} {
		if s, err := PutClock(c.seconds, c.most); s != c.text || err != c.err {
			t.Error(c, s, err)
		}
	}
}

// P16.1: what is accepted as a clock time, and which error is told, by hand.
func TestClockForms(t *testing.T) {
	for _, c := range []struct {
		s    string
		most int
		want int
		err  error
	}{
		{"0", 0, 0, nil},
		{"-0", 0, 0, nil},
		{"+000:00:00", 0, 0, nil},
		{"5", 24, 18000, nil},
		{"+5", 24, 18000, nil},
		{"-5", 24, -18000, nil},
		{"005", 24, 18000, nil},
		{"24:59:59", 24, 89999, nil},
		{"-0:30", 24, -1800, nil},
		{"999", 999, 3596400, nil},
		{"25", 24, 0, api.ErrRange},
		{"-25", 24, 0, api.ErrRange},
		{"1", 0, 0, api.ErrRange},
		{"0:60", 24, 0, api.ErrRange},
		{"0:99:00", 24, 0, api.ErrRange},
		{"0:00:60", 24, 0, api.ErrRange},
		{"25:99:99", 24, 0, api.ErrRange},
		{"25:99:9", 24, 0, api.ErrForm}, // the form before the numbers
		{"25 ", 24, 0, api.ErrForm},
		{"", 24, 0, api.ErrForm},
		{"+", 24, 0, api.ErrForm},
		{"-", 24, 0, api.ErrForm},
		{"+-5", 24, 0, api.ErrForm},
		{"-+5", 24, 0, api.ErrForm},
		{"++5", 24, 0, api.ErrForm},
		{"--5", 24, 0, api.ErrForm},
		{":00", 24, 0, api.ErrForm},
		{"0001", 24, 0, api.ErrForm},
		{"5:", 24, 0, api.ErrForm},
		{"5:0", 24, 0, api.ErrForm},
		{"5:000", 24, 0, api.ErrForm},
		{"5:-1", 24, 0, api.ErrForm},
		{"5:00:", 24, 0, api.ErrForm},
		{"5:00:0", 24, 0, api.ErrForm},
		{"5:00:000", 24, 0, api.ErrForm},
		{"5::00", 24, 0, api.ErrForm},
		{"5:00:00:00", 24, 0, api.ErrForm},
		{"5.00", 24, 0, api.ErrForm},
		{" 5", 24, 0, api.ErrForm},
		{"5\n", 24, 0, api.ErrForm},
		{"x", 24, 0, api.ErrForm},
		{"x", -1, 0, api.ErrRange}, // the limit before all else
		{"x", 1000, 0, api.ErrRange},
		{"0", 1000, 0, api.ErrRange},
		{"0", -1, 0, api.ErrRange},
	} {
		if seconds, err := ParseClock(c.s, c.most); seconds != c.want || err != c.err {
			t.Errorf("ParseClock of %q, at most %d: %d, %v; want %d, %v", c.s, c.most, seconds, err, c.want, c.err)
		}
		if seconds, err := wantParseClock(c.s, c.most); seconds != c.want || err != c.err {
			t.Errorf("the measure of %q, at most %d: %d, %v; want %d, %v", c.s, c.most, seconds, err, c.want, c.err)
		}
	}
}

// P16.1, P16.2: whatever is one byte away from a text, and other texts of such bytes, are read as the chapter says.
func TestClockNear(t *testing.T) {
	for _, s := range []string{"0", "2", "-1:30", "+24:59:59", "167:59:59", "999", "007:00", "-100:05:06"} {
		for _, s := range near(s) {
			clockParsed(t, s)
		}
	}
	r := random(1600)
	pieces := []string{":", ":", "-", "+", "0", "1", "5", "05", "24", "59", "60", "99", "167", "168", " ", "x"}
	for range 100000 {
		s := ""
		for range 1 + r.below(7) {
			s += pieces[r.below(len(pieces))]
		}
		clockParsed(t, s)
	}
	for _, s := range []string{"0", "-", "+", ":", "1:", "00:"} {
		clockParsed(t, strings.Repeat(s, 100000))
	}
}
