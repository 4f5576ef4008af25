package gps

import (
	"fmt"
	"math"
	"math/big"
	"regexp"
	"strings"
	"testing"
	"time"

	"horologe/api"
)

// random makes numbers that look random, the same in each run.
type random uint64

func (r *random) next() uint64 {
	*r ^= *r << 13
	*r ^= *r >> 7
	*r ^= *r << 17
	return uint64(*r)
}

// large is a number without bounds.
func large(n int64) *big.Int {
	return big.NewInt(n)
}

// plus is a sum.
func plus(a, b *big.Int) *big.Int {
	return new(big.Int).Add(a, b)
}

// times is a product.
func times(a, b *big.Int) *big.Int {
	return new(big.Int).Mul(a, b)
}

// wantOf is the chapter's week and second of a moment.
func wantOf(tai int64) (int64, int, error) {
	seconds := plus(large(tai), large(-315964819))
	if !seconds.IsInt64() {
		return 0, 0, api.ErrOver
	}
	week, second := new(big.Int).DivMod(seconds, large(604800), new(big.Int))
	return week.Int64(), int(second.Int64()), nil
}

// wantTai is the chapter's atomic seconds of a week's second.
func wantTai(week int64, second int) (int64, error) {
	if second < 0 || second > 604799 {
		return 0, api.ErrRange
	}
	first := times(large(week), large(604800))
	seconds := plus(first, large(int64(second)))
	tai := plus(seconds, large(315964819))
	if !first.IsInt64() || !seconds.IsInt64() || !tai.IsInt64() {
		return 0, api.ErrOver
	}
	return tai.Int64(), nil
}

// wantShort is a week's rest by 1024.
func wantShort(week int64) int {
	return int(new(big.Int).Mod(large(week), large(1024)).Int64())
}

// wantLong is the only week with a short week that is at least the pivot less 512, and less than the pivot and 512.
func wantLong(short int, pivot int64) (int64, error) {
	if short < 0 || short > 1023 {
		return 0, api.ErrRange
	}
	rest := wantShort(pivot)
	for ahead := -512; ahead < 512; ahead++ {
		if (rest+ahead+1024)%1024 != short {
			continue
		}
		week := plus(large(pivot), large(int64(ahead)))
		if !week.IsInt64() {
			return 0, api.ErrOver
		}
		return week.Int64(), nil
	}
	panic("no week is near the pivot")
}

// wantPut is a moment's text.
func wantPut(tai int64) (string, error) {
	week, second, err := wantOf(tai)
	if err != nil {
		return "", err
	}
	sign := ""
	if week < 0 {
		sign, week = "-", -week // no week is as low as the lowest number
	}
	return fmt.Sprintf("%s%04d:%06d", sign, week, second), nil
}

// shape is the form of a text, but for -0000.
var shape = regexp.MustCompile(`^(-?(?:[0-9]{4}|[1-9][0-9]{4,})):([0-9]{6})\z`)

// wantParse is a text's moment.
func wantParse(s string) (int64, error) {
	parts := shape.FindStringSubmatch(s)
	if parts == nil || parts[1] == "-0000" {
		return 0, api.ErrForm
	}
	week, _ := new(big.Int).SetString(parts[1], 10)
	if !week.IsInt64() {
		return 0, api.ErrOver
	}
	second, _ := new(big.Int).SetString(parts[2], 10)
	return wantTai(week.Int64(), int(second.Int64()))
}

// wantNear is the moment of a short week's second, about another one.
func wantNear(short, second int, pivot int64) (int64, error) {
	about, _, err := wantOf(pivot)
	if err != nil {
		return 0, err
	}
	week, err := wantLong(short, about)
	if err != nil {
		return 0, err
	}
	return wantTai(week, second)
}

// numbers are those around zero, around weeks and cycles of weeks, around powers of two, and at the ends.
func numbers(more int) []int64 {
	var list []int64
	for d := int64(-3); d <= 3; d++ {
		for _, n := range []int64{0, 604800, 315964819, 315964819 + 604800, 315964819 - 604800, 315964819 + 1024*604800, 315964819 - 1024*604800} {
			list = append(list, n+d, d-n)
		}
		list = append(list, math.MinInt64+3+d, math.MaxInt64-3+d, math.MinInt64+315964819+d, math.MaxInt64-315964819+d)
		list = append(list, math.MinInt64+315964819+604800+d, math.MaxInt64-604800+d, math.MinInt64/604800+d, math.MaxInt64/604800+d)
		list = append(list, math.MaxInt64/604800-522+d, math.MaxInt64/604800-523+d, math.MinInt64/604800+522+d) // the last week with atomic seconds is among them
		list = append(list, math.MinInt64+512+d, math.MaxInt64-512+d, math.MinInt64+1024+d, math.MaxInt64-1024+d)
	}
	for k := range 63 {
		for d := int64(-1); d <= 1; d++ {
			list = append(list, 1<<k+d, -(1<<k)+d)
		}
	}
	r := random(14)
	for range more {
		list = append(list, int64(r.next())>>(r.next()%64))
	}
	return list
}

// seconds are those of a week, and wrong ones.
func seconds() []int {
	return []int{
		0, 1, 2, 59, 86400, 302400, 467189, 604798, 604799,
		-1, -2, -604800, 604800, 604801, 999999, 1209600, 1 << 31, 1 << 32, 1<<32 + 5, math.MinInt, math.MinInt + 1, math.MaxInt,
	}
}

// shorts are short weeks, and wrong ones.
func shorts() []int {
	return []int{
		0, 1, 2, 511, 512, 513, 700, 1022, 1023,
		-1, -2, -512, -1024, 1024, 1025, 2047, 2048, 1 << 16, 1 << 32, 1<<32 + 1, math.MinInt, math.MinInt + 1, math.MaxInt,
	}
}

// P14.1: a moment has the week and the second that the chapter says, and their text.
func TestOf(t *testing.T) {
	for _, tai := range numbers(5000) {
		wantWeek, wantSecond, fault := wantOf(tai)
		week, second, err := Of(tai)
		if week != wantWeek || second != wantSecond || err != fault {
			t.Fatal(tai, week, second, err, wantWeek, wantSecond, fault)
		}
		want, fault := wantPut(tai)
		if s, err := Put(tai); s != want || err != fault {
			t.Fatal(tai, s, err, want, fault)
		}
	}
}

// P14.1: the ends of what has a week, by hand.
func TestEnds(t *testing.T) {
	const low = math.MinInt64 + 315964819 // satellite seconds -2^63, in a week that begins before them
	for i, c := range []struct {
		tai    int64
		week   int64
		second int
		text   string
		err    error
	}{
		{math.MinInt64, 0, 0, "", api.ErrOver},
		{low - 1, 0, 0, "", api.ErrOver},
		{low, -15250284452472, 289792, "-15250284452472:289792", nil},
		{math.MaxInt64, 15250284451949, 55788, "15250284451949:055788", nil},
		{0, -523, 345581, "-0523:345581", nil},
		{315964819, 0, 0, "0000:000000", nil},
		{315964818, -1, 604799, "-0001:604799", nil},
		{315964819 + 604799, 0, 604799, "0000:604799", nil},
		{315964819 + 604800, 1, 0, "0001:000000", nil},
		{315964819 - 604800, -1, 0, "-0001:000000", nil},
		{315964819 - 604801, -2, 604799, "-0002:604799", nil},
		{315964819 + 9999*604800 + 604799, 9999, 604799, "9999:604799", nil},
		{315964819 + 10000*604800, 10000, 0, "10000:000000", nil},
		{315964819 - 9999*604800, -9999, 0, "-9999:000000", nil},
		{315964819 - 9999*604800 - 1, -10000, 604799, "-10000:604799", nil},
	} {
		if w, s, err := Of(c.tai); w != c.week || s != c.second || err != c.err {
			t.Error(i, c, w, s, err)
		}
		if s, err := Put(c.tai); s != c.text || err != c.err {
			t.Error(i, c, s, err)
		}
	}
}

// P14.1: a week's second has the atomic seconds that the chapter says, or the first error of its list.
func TestTai(t *testing.T) {
	for _, week := range numbers(500) {
		for _, second := range seconds() {
			want, fault := wantTai(week, second)
			if got, err := Tai(week, second); got != want || err != fault {
				t.Fatal(week, second, got, err, want, fault)
			}
		}
	}
}

// P14.1: the first and the last weeks that have atomic seconds.
func TestLastWeeks(t *testing.T) {
	low := int64(math.MinInt64) / 604800            // the first week that begins in range
	high := int64(math.MaxInt64-315964819) / 604800 // the last one with atomic seconds
	last := int(int64(math.MaxInt64-315964819) % 604800)
	for i, c := range []struct {
		week   int64
		second int
		want   int64
		err    error
	}{
		{low, 0, low*604800 + 315964819, nil},
		{low - 1, 0, 0, api.ErrOver},
		{low - 1, 604799, 0, api.ErrOver}, // in range itself, but its week doesn't begin there
		{low - 1, 604800, 0, api.ErrRange},
		{high, last, math.MaxInt64, nil},
		{high, last - 1, math.MaxInt64 - 1, nil},
		{high, last + 1, 0, api.ErrOver},
		{high, 604799, 0, api.ErrOver},
		{high, -1, 0, api.ErrRange},
		{high + 1, 0, 0, api.ErrOver},
		{math.MaxInt64 / 604800, 0, 0, api.ErrOver},
		{math.MaxInt64 / 604800, 604799, 0, api.ErrOver},
		{math.MaxInt64, 0, 0, api.ErrOver},
		{math.MinInt64, 0, 0, api.ErrOver},
		{math.MinInt64, -1, 0, api.ErrRange},
		{math.MaxInt64, 604800, 0, api.ErrRange},
	} {
		if got, err := Tai(c.week, c.second); got != c.want || err != c.err {
			t.Error(i, c, got, err)
		}
	}
}

// P14.1: a short week is the rest by 1024, never negative.
func TestShort(t *testing.T) {
	for _, week := range numbers(5000) {
		if got, want := Short(week), wantShort(week); got != want {
			t.Fatal(week, got, want)
		}
	}
}

// P14.1: of the weeks with a short week, the one near the pivot is told.
func TestLong(t *testing.T) {
	for _, pivot := range numbers(50) {
		rest := wantShort(pivot)
		list := append(shorts(), rest, (rest+511)%1024, (rest+512)%1024, (rest+513)%1024)
		for _, short := range list {
			want, fault := wantLong(short, pivot)
			if got, err := Long(short, pivot); got != want || err != fault {
				t.Fatal(short, pivot, got, err, want, fault)
			}
		}
	}
}

// P14.1: a short week's second is told about a pivot in atomic seconds, or the first error of the list.
func TestNear(t *testing.T) {
	for _, pivot := range numbers(50) {
		for _, short := range shorts() {
			for _, second := range seconds() {
				want, fault := wantNear(short, second, pivot)
				if got, err := Near(short, second, pivot); got != want || err != fault {
					t.Fatal(short, second, pivot, got, err, want, fault)
				}
			}
		}
	}
}

// P14.1: which error is told first, by hand.
func TestErrors(t *testing.T) {
	low := int64(math.MinInt64) / 604800 // the first week that begins in range
	for i, c := range []struct {
		short, second int
		pivot         int64
		want          int64
		err           error
	}{
		{0, 0, 315964819, 315964819, nil},
		{1023, 604799, 315964819, 315964818, nil},
		{0, 5, 1560000000, 1554595224, nil},
		{1024, 604800, math.MinInt64, 0, api.ErrOver}, // the pivot's week, before all else
		{-1, 604800, math.MinInt64 + 315964818, 0, api.ErrOver},
		{1024, 604800, math.MinInt64 + 315964819, 0, api.ErrRange},
		{-1, 0, 0, 0, api.ErrRange},
		{0, 604800, 0, 0, api.ErrRange},
		{0, -1, 0, 0, api.ErrRange},
		{wantShort(low - 1), 604799, math.MinInt64 + 315964819, 0, api.ErrOver}, // the pivot's own week
		{wantShort(low), 0, math.MinInt64 + 315964819, low*604800 + 315964819, nil},
		{wantShort(low - 2), -1, math.MinInt64 + 315964819, 0, api.ErrRange},
	} {
		if got, err := Near(c.short, c.second, c.pivot); got != c.want || err != c.err {
			t.Error(i, c, got, err)
		}
	}
}

// P14.1: a text has one form alone.
func TestForms(t *testing.T) {
	for _, c := range []struct {
		s    string
		want int64
		err  error
	}{
		{"0000:000000", 315964819, nil},
		{"-0001:604799", 315964818, nil},
		{"2048:000000", 1554595219, nil},
		{"10000:000001", 315964819 + 10000*604800 + 1, nil},
		{"-10000:000001", 315964819 - 10000*604800 + 1, nil},
		{"15250284451949:055788", math.MaxInt64, nil},
		{"15250284451949:055789", 0, api.ErrOver},
		{"15250284451950:000000", 0, api.ErrOver},
		{"-15250284452471:000000", -15250284452471*604800 + 315964819, nil},
		{"-15250284452472:604799", 0, api.ErrOver},
		{"0001:604800", 0, api.ErrRange},
		{"0001:999999", 0, api.ErrRange},
		{"9223372036854775807:604800", 0, api.ErrRange}, // the second before the week, as in Tai
		{"9223372036854775807:604799", 0, api.ErrOver},
		{"-9223372036854775808:000000", 0, api.ErrOver},
		{"-9223372036854775808:604800", 0, api.ErrRange},
		{"9223372036854775808:604800", 0, api.ErrOver}, // no number, and so before the second
		{"-9223372036854775809:604800", 0, api.ErrOver},
		{"10000000000000000000:604800", 0, api.ErrOver},
		{"-10000000000000000000:000000", 0, api.ErrOver},
		{"18446744073709551617:000000", 0, api.ErrOver}, // wrapped around it would be 1
		{"99999999999999999999:000000", 0, api.ErrOver},
		{"100000000000000000000:000000", 0, api.ErrOver},
		{"-123456789012345678901234567890:999999", 0, api.ErrOver},
		{"99999999999999999999:00000", 0, api.ErrForm}, // the form before all else
		{"99999999999999999999:000000 ", 0, api.ErrForm},
		{"999999999999999999999x:000000", 0, api.ErrForm},
		{"00000000000000000001:000000", 0, api.ErrForm},
		{"", 0, api.ErrForm}, {"-", 0, api.ErrForm}, {":", 0, api.ErrForm}, {":000000", 0, api.ErrForm}, {"-:000000", 0, api.ErrForm},
		{"0", 0, api.ErrForm}, {"0000", 0, api.ErrForm}, {"0000:", 0, api.ErrForm}, {"123:000000", 0, api.ErrForm}, {"-123:000000", 0, api.ErrForm},
		{"00123:000000", 0, api.ErrForm}, {"-00123:000000", 0, api.ErrForm}, {"00000:000000", 0, api.ErrForm}, {"-00000:000000", 0, api.ErrForm},
		{"-0000:000000", 0, api.ErrForm}, {"-0000:604800", 0, api.ErrForm}, {"+0001:000000", 0, api.ErrForm}, {"--0001:000000", 0, api.ErrForm},
		{"+-0001:000000", 0, api.ErrForm}, {"-+0001:000000", 0, api.ErrForm}, {"0001-:000000", 0, api.ErrForm}, {"0001:-00001", 0, api.ErrForm},
		{"0001:+00001", 0, api.ErrForm}, {"0001:00000", 0, api.ErrForm}, {"0001:0000000", 0, api.ErrForm}, {"0001;000000", 0, api.ErrForm},
		{"0001::000000", 0, api.ErrForm}, {"0001:000000:", 0, api.ErrForm}, {" 0001:000000", 0, api.ErrForm}, {"0001:000000\n", 0, api.ErrForm},
		{"0001 :000000", 0, api.ErrForm}, {"0001: 00000", 0, api.ErrForm}, {"000a:000000", 0, api.ErrForm}, {"0001:00000a", 0, api.ErrForm},
		{"0001:000000\x00", 0, api.ErrForm}, {"\xff0001:000000", 0, api.ErrForm}, {"\u0661\u0661\u0661\u0661:000000", 0, api.ErrForm},
	} {
		if got, err := Parse(c.s); got != c.want || err != c.err {
			t.Errorf("Parse of %q: %d, %v; want %d, %v", c.s, got, err, c.want, c.err)
		}
		if got, err := wantParse(c.s); got != c.want || err != c.err {
			t.Errorf("the measure of %q: %d, %v; want %d, %v", c.s, got, err, c.want, c.err)
		}
	}
}

// P14.1: however long a week is, its first digits tell that it is out of range.
func TestLongTexts(t *testing.T) {
	for many := 5; many < 60; many++ {
		for _, first := range []string{"1", "9", "-1", "-9", "0", "-0"} {
			for _, digit := range []string{"0", "9"} {
				for _, second := range []string{"000000", "604799", "604800", "00000"} {
					s := first + strings.Repeat(digit, many-1) + ":" + second
					want, fault := wantParse(s)
					if got, err := Parse(s); got != want || err != fault {
						t.Fatalf("Parse of %q: %d, %v; want %d, %v", s, got, err, want, fault)
					}
				}
			}
		}
	}
	if got, err := Parse(strings.Repeat("1", 1<<20) + ":000000"); got != 0 || err != api.ErrOver {
		t.Error(got, err)
	}
	if got, err := Parse(strings.Repeat("1", 1<<20)); got != 0 || err != api.ErrForm {
		t.Error(got, err)
	}
}

// P14.1: whatever is one byte away from a text is read as the chapter says, and what is read is written as it was.
func TestNearTexts(t *testing.T) {
	for _, s := range []string{"0000:000000", "-0001:604799", "2048:000000", "10000:123456", "-12345:604800", "9223372036854775807:000000", "-9223372036854775808:000000"} {
		near := []string{s}
		for i := range len(s) + 1 {
			for b := range 256 {
				near = append(near, s[:i]+string([]byte{byte(b)})+s[i:])
				if i < len(s) {
					near = append(near, s[:i]+string([]byte{byte(b)})+s[i+1:])
				}
			}
			near = append(near, s[:i], s[i:], s[:i]+s[min(i+1, len(s)):])
		}
		for _, s := range near {
			want, fault := wantParse(s)
			got, err := Parse(s)
			if got != want || err != fault {
				t.Fatalf("Parse of %q: %d, %v; want %d, %v", s, got, err, want, fault)
			}
			if err != nil {
				continue
			}
			if back, err := Put(got); back != s || err != nil {
				t.Fatalf("Put of %d: %q, %v; want %q", got, back, err, s)
			}
		}
	}
}

// P14.1: weeks begin where the library's calendar says, so many leap seconds later.
func TestDates(t *testing.T) {
	for i, c := range []struct {
		date   string // Universal Time
		ahead  int64  // seconds that atomic time is ahead
		week   int64
		second int
	}{
		{"1980-01-06T00:00:00Z", 19, 0, 0},
		{"1980-01-05T23:59:59Z", 19, -1, 604799},
		{"1980-01-12T23:59:59Z", 19, 0, 604799},
		{"1981-07-01T00:00:00Z", 20, 77, 259201},
		{"1999-08-21T23:59:46Z", 32, 1023, 604799},
		{"1999-08-21T23:59:47Z", 32, 1024, 0},
		{"2017-01-01T00:00:00Z", 37, 1930, 18},
		{"2019-04-06T23:59:42Z", 37, 2048, 0},
	} {
		at, err := time.Parse(time.RFC3339, c.date)
		if err != nil {
			t.Fatal(err)
		}
		tai := at.Unix() + c.ahead
		if w, s, err := Of(tai); w != c.week || s != c.second || err != nil {
			t.Error(i, c, w, s, err)
		}
		if got, err := Tai(c.week, c.second); got != tai || err != nil {
			t.Error(i, c, got, err)
		}
	}
}

// P14.2: a moment comes back from its week and second, and from its text, if its week begins in range.
func TestThereAndBack(t *testing.T) {
	for _, tai := range numbers(5000) {
		week, second, err := Of(tai)
		if err != nil {
			continue
		}
		s, err := Put(tai)
		if err != nil {
			t.Fatal(tai, err)
		}
		want, fault := tai, error(nil)
		if !times(large(week), large(604800)).IsInt64() {
			want, fault = 0, api.ErrOver
		}
		if back, err := Tai(week, second); back != want || err != fault {
			t.Fatal(tai, week, second, back, err)
		}
		if back, err := Parse(s); back != want || err != fault {
			t.Fatal(tai, s, back, err)
		}
	}
	for _, week := range numbers(5000) {
		for _, second := range []int{0, 1, 302400, 604798, 604799} {
			tai, err := Tai(week, second)
			if err != nil {
				continue
			}
			if w, s, err := Of(tai); w != week || s != second || err != nil {
				t.Fatal(week, second, w, s, err)
			}
		}
	}
}

// P14.2: a short week and its second come back by a pivot whose week is near, and otherwise whole cycles away.
func TestPivots(t *testing.T) {
	const cycle = 1024 * 604800
	for _, tai := range numbers(1000) {
		week, second, err := Of(tai)
		if err != nil || tai < math.MinInt64+2*cycle || tai > math.MaxInt64-2*cycle {
			continue
		}
		start := tai - int64(second)
		for _, apart := range []int64{-511, -510, -100, -1, 0, 1, 77, 511, 512} { // weeks that the pivot is ahead
			for _, rest := range []int64{0, 1, int64(second), 604799} {
				if back, err := Near(Short(week), second, start+apart*604800+rest); back != tai || err != nil {
					t.Fatal(tai, apart, rest, back, err)
				}
			}
		}
		for _, c := range []struct{ apart, moved int64 }{{513, cycle}, {1024, cycle}, {-512, -cycle}, {-1024, -cycle}} {
			if back, err := Near(Short(week), second, start+c.apart*604800); back != tai+c.moved || err != nil {
				t.Fatal(tai, c, back, err)
			}
		}
		if back, err := Long(Short(week), week+512); back != week || err != nil {
			t.Fatal(week, back, err)
		}
	}
}
