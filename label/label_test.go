package label

import (
	"cmp"
	"math"
	"slices"
	"testing"
	"time"

	"horologe/api"
)

const (
	first = -4371587 // 1 January -9999
	last  = 2932896  // 31 December 9999
)

// at is the library's minute in which a label's moment is, if its date, hour, minute and offset are such as a label may have.
func at(l Label) time.Time {
	return time.Date(l.Year, time.Month(l.Month), l.Day, l.Hour, l.Minute-l.Offset, 0, 0, time.UTC)
}

// dated tells whether the library leaves a date as it is, and whether its year is one.
func dated(year, month, day int) error {
	if year < api.MinYear || year > api.MaxYear {
		return api.ErrYear
	}
	if month < 1 || month > 12 || day < 1 || day > 31 || time.Date(year, time.Month(month), day, 0, 0, 0, 0, time.UTC).Day() != day {
		return api.ErrRange
	}
	return nil
}

// fault is the error of a label, by the chapter's sentence.
func fault(l Label) error {
	if err := dated(l.Year, l.Month, l.Day); err != nil {
		return err
	}
	if l.Hour < 0 || l.Hour > 23 || l.Minute < 0 || l.Minute > 59 || l.Second < 0 || l.Second > 60 || l.Nano < 0 || l.Nano > 999999999 || l.Offset < -1439 || l.Offset > 1439 {
		return api.ErrRange
	}
	moment := at(l)
	if moment.Year() < api.MinYear || moment.Year() > api.MaxYear {
		return api.ErrYear
	}
	if l.Second == 60 && (moment.Hour() != 23 || moment.Minute() != 59) {
		return api.ErrLeap
	}
	return nil
}

// other is the label of a good label's moment at another offset, which may be one of no year.
func other(l Label, offset int) Label {
	shown := at(l).Add(time.Duration(offset) * time.Minute)
	return Label{shown.Year(), int(shown.Month()), shown.Day(), shown.Hour(), shown.Minute(), l.Second, l.Nano, offset}
}

// parts are a good label's day and second of the day.
func parts(l Label) (int64, int) {
	moment := at(l)
	n := moment.Unix() / 86400
	if moment.Unix()%86400 < 0 {
		n--
	}
	return n, int(moment.Unix()-86400*n) + l.Second
}

// checkAll holds what every function answers of a label against the library's calendar.
func checkAll(t *testing.T, l Label) {
	t.Helper()
	want := fault(l)
	if err := Check(l); err != want {
		t.Fatalf("Check of %+v: %v; want %v", l, err, want)
	}
	if leap := Leap(l); leap != (want == nil && l.Second == 60) {
		t.Fatalf("Leap of %+v: %t", l, leap)
	}
	var n int64
	var second int
	if want == nil {
		n, second = parts(l)
	}
	if gotDay, gotSecond, err := Split(l); gotDay != n || gotSecond != second || err != want {
		t.Fatalf("Split of %+v: %d, %d, %v; want %d, %d, %v", l, gotDay, gotSecond, err, n, second, want)
	}
	if want == nil {
		if back, err := Of(n, second, l.Nano, l.Offset); back != l || err != nil {
			t.Fatalf("Of %d, %d, %d, %d: %+v, %v; want %+v", n, second, l.Nano, l.Offset, back, err, l)
		}
	}
	var zero Label
	if want == nil {
		zero = other(l, 0)
	}
	if u, err := UTC(l); u != zero || err != want {
		t.Fatalf("UTC of %+v: %+v, %v; want %+v, %v", l, u, err, zero, want)
	}
}

// checkAt holds At against the library's calendar, and that the way back leads to the same label.
func checkAt(t *testing.T, l Label, offset int) {
	t.Helper()
	want := fault(l)
	var moved Label
	if want == nil {
		if offset < -1439 || offset > 1439 {
			want = api.ErrRange
		} else if moved = other(l, offset); moved.Year < api.MinYear || moved.Year > api.MaxYear {
			want, moved = api.ErrYear, Label{}
		}
	}
	got, err := At(l, offset)
	if got != moved || err != want {
		t.Fatalf("At of %+v, %d: %+v, %v; want %+v, %v", l, offset, got, err, moved, want)
	}
	if err != nil {
		return
	}
	if back, err := At(got, l.Offset); back != l || err != nil {
		t.Fatalf("At of %+v, %d, and back: %+v, %v", l, offset, back, err)
	}
}

// extremes are numbers far beyond each part of a label, also such as are good in fewer bits.
func extremes() []int {
	list := []int{math.MinInt, math.MinInt + 1, math.MaxInt, math.MaxInt - 1}
	for _, shift := range []int{8, 16, 31, 32, 33, 48, 62} {
		for _, near := range []int{-1440, -61, -1, 0, 1, 12, 31, 59, 60, 1439, 2000} {
			list = append(list, 1<<shift+near, -1<<shift+near)
		}
	}
	return list
}

// P8.1: labels whose parts are at the edges, in all combinations.
func TestEdges(t *testing.T) {
	for _, year := range []int{-10000, -9999, 0, 1900, 2000, 2023, 9999, 10000} {
		for _, date := range [][2]int{{0, 1}, {1, 0}, {1, 1}, {1, 31}, {1, 32}, {2, 28}, {2, 29}, {2, 30}, {3, 1}, {4, 31}, {12, 31}, {12, 32}, {13, 1}} {
			for _, hour := range []int{-1, 0, 1, 22, 23, 24} {
				for _, minute := range []int{-1, 0, 1, 58, 59, 60} {
					for _, second := range []int{-1, 0, 59, 60, 61} {
						for _, offset := range []int{-1440, -1439, -60, -1, 0, 1, 60, 1439, 1440} {
							l := Label{year, date[0], date[1], hour, minute, second, 7, offset}
							checkAll(t, l)
							checkAt(t, l, 60-offset)
						}
					}
				}
			}
		}
	}
}

// P8.1: nanoseconds don't depend on anything, and are told with the other parts.
func TestNanoseconds(t *testing.T) {
	for _, nano := range append(extremes(), -2, -1, 0, 1, 500000000, 999999998, 999999999, 1000000000, 1000000001) {
		for _, l := range []Label{
			{1970, 1, 1, 0, 0, 0, nano, 0},
			{2016, 12, 31, 15, 59, 60, nano, -480},
			{2016, 12, 31, 15, 58, 60, nano, -480},
			{-9999, 1, 1, 0, 0, 0, nano, 1},
			{10000, 1, 1, 0, 0, 0, nano, 0},
		} {
			checkAll(t, l)
			checkAt(t, l, 60)
			checkAt(t, l, 1440)
		}
		if nano >= 0 && nano <= 999999999 {
			continue
		}
		if l, err := Of(0, 0, nano, 0); l != (Label{}) || err != api.ErrRange {
			t.Errorf("Of 0, 0, %d, 0: %+v, %v", nano, l, err)
		}
	}
}

// P8.1: one part far beyond its range, the others good.
func TestExtremes(t *testing.T) {
	for _, far := range extremes() {
		for _, good := range []Label{{2000, 1, 2, 3, 4, 5, 6, 7}, {2016, 12, 31, 23, 59, 60, 0, 0}} {
			for part := range 8 {
				l := good
				*[...]*int{&l.Year, &l.Month, &l.Day, &l.Hour, &l.Minute, &l.Second, &l.Nano, &l.Offset}[part] = far
				checkAll(t, l)
				checkAt(t, l, -7)
				if c, err := Compare(good, l); err != fault(l) || c < -1 || c > 1 || err != nil && c != 0 {
					t.Errorf("Compare of %+v and %+v: %d, %v", good, l, c, err)
				}
			}
			checkAt(t, good, far)
		}
		if l, err := Of(0, far, 0, 0); far < 0 && err != api.ErrRange || far > 86400 && err != api.ErrRange || err != nil && l != (Label{}) {
			t.Errorf("Of 0, %d, 0, 0: %+v, %v", far, l, err)
		}
		if hour, minute, rest, err := Clock(far); (far < 0 || far > 86400) && (hour != 0 || minute != 0 || rest != 0 || err != api.ErrRange) {
			t.Errorf("Clock of %d: %d, %d, %d, %v", far, hour, minute, rest, err)
		}
	}
}

// P8.1, P8.2: each minute of days around which dates change, at each offset.
func TestEveryMinuteAndOffset(t *testing.T) {
	for i, date := range [][3]int{{-9999, 1, 1}, {-1, 12, 31}, {1970, 1, 1}, {2000, 2, 29}, {2023, 3, 1}, {9999, 12, 31}} {
		for offset := -1439; offset <= 1439; offset++ {
			step := 11
			if offset < -1430 || offset > 1430 || offset > -8 && offset < 8 {
				step = 1
			}
			for minute := (offset + 1439 + i) % step; minute < 1440; minute += step {
				l := Label{date[0], date[1], date[2], minute / 60, minute % 60, (minute + offset + 1439) % 60, minute, offset}
				checkAll(t, l)
				checkAt(t, l, (minute*7+i)%2879-1439)
			}
		}
	}
}

// P8.1, P8.2: a day has one second 60, wherever its clock is.
func TestEverySecond60(t *testing.T) {
	for _, n := range []int64{first, -719529, 0, 17166, 18321, last} {
		for offset := -1439; offset <= 1439; offset++ {
			l, err := Of(n, 86400, 999999999, offset)
			want := other(Label{1970, 1, 1, 23, 59, 60, 999999999, 0}, offset)
			shown := time.Unix(n*86400, 0).UTC().Add((1439 + time.Duration(offset)) * time.Minute)
			want.Year, want.Month, want.Day = shown.Year(), int(shown.Month()), shown.Day()
			if want.Year > api.MaxYear {
				if l != (Label{}) || err != api.ErrYear {
					t.Errorf("Of %d, 86400, 999999999, %d: %+v, %v", n, offset, l, err)
				}
				continue
			}
			if l != want || err != nil {
				t.Errorf("Of %d, 86400, 999999999, %d: %+v, %v; want %+v", n, offset, l, err, want)
			}
			checkAll(t, l)
			for minute := 1; minute < 1440; minute++ { // the same date and offset, at any other minute
				l.Hour, l.Minute = (want.Hour*60+want.Minute+minute)%1440/60, (want.Minute+minute)%60
				if Leap(l) || Check(l) == nil {
					t.Fatalf("%+v is a second 60", l)
				}
			}
		}
	}
}

// P8.1, P8.2: each second of a day.
func TestEverySecond(t *testing.T) {
	for _, c := range []struct {
		n      int64
		offset int
	}{{0, 0}, {11016, -1}, {11016, 330}, {first, 1439}, {last, -1439}, {first, 0}, {last, 0}} {
		for second := range 86401 {
			l, err := Of(c.n, second, second, c.offset)
			if err != nil {
				t.Fatalf("Of %d, %d, %d, %d: %v", c.n, second, second, c.offset, err)
			}
			minute := (min(second/60, 1439) + c.offset + 1440) % 1440
			if l.Hour != minute/60 || l.Minute != minute%60 || l.Second != second-60*min(second/60, 1439) || l.Nano != second || l.Offset != c.offset {
				t.Fatalf("Of %d, %d, %d, %d: %+v", c.n, second, second, c.offset, l)
			}
			if n, back, err := Split(l); n != c.n || back != second || err != nil {
				t.Fatalf("Split of %+v: %d, %d, %v; want %d, %d", l, n, back, err, c.n, second)
			}
		}
	}
}

// P8.1, P8.2: days over the whole calendar.
func TestManyDays(t *testing.T) {
	for n := int64(first); n <= last; n += 61 {
		second := int((n-first)*733) % 86401
		offset := int(n-first)%2879 - 1439
		want := time.Unix(n*86400, 0).UTC().Add(time.Duration(min(second/60, 1439)+offset) * time.Minute)
		l, err := Of(n, second, 5, offset)
		if want.Year() < api.MinYear || want.Year() > api.MaxYear {
			if l != (Label{}) || err != api.ErrYear {
				t.Fatalf("Of %d, %d, 5, %d: %+v, %v", n, second, offset, l, err)
			}
			continue
		}
		if l.Year != want.Year() || l.Month != int(want.Month()) || l.Day != want.Day() || l.Hour != want.Hour() || l.Minute != want.Minute() || err != nil {
			t.Fatalf("Of %d, %d, 5, %d: %+v, %v; want %v", n, second, offset, l, err, want)
		}
		checkAll(t, l)
		checkAt(t, l, 0)
	}
}

// P8.1: wrong arguments of Of, in all combinations.
func TestOfErrors(t *testing.T) {
	for _, n := range []int64{math.MinInt64, -1 << 32, first - 1, first, 0, last, last + 1, 1 << 32, 1<<33 + 5, math.MaxInt64} {
		for _, second := range []int{-86400, -1, 0, 59, 60, 86339, 86340, 86399, 86400, 86401} {
			for _, nano := range []int{-1, 0, 999999999, 1000000000} {
				for _, offset := range []int{-1440, -1439, -1438, -1, 0, 1, 60, 1438, 1439, 1440} {
					minute := min(second/60, 1439) + offset
					var want error
					switch {
					case n < first || n > last:
						want = api.ErrYear
					case second < 0 || second > 86400 || nano < 0 || nano > 999999999 || offset < -1439 || offset > 1439:
						want = api.ErrRange
					case n == first && minute < 0 || n == last && minute > 1439:
						want = api.ErrYear
					}
					l, err := Of(n, second, nano, offset)
					if err != want || err != nil && l != (Label{}) || err == nil && (l == Label{} || l.Nano != nano || l.Offset != offset) {
						t.Errorf("Of %d, %d, %d, %d: %+v, %v; want %v", n, second, nano, offset, l, err, want)
					}
				}
			}
		}
	}
}

// P8.1: labels and moments known beforehand.
func TestKnown(t *testing.T) {
	for _, c := range []struct {
		l      Label
		n      int64
		second int
		utc    Label
	}{
		{Label{1970, 1, 1, 0, 0, 0, 0, 0}, 0, 0, Label{1970, 1, 1, 0, 0, 0, 0, 0}},
		{Label{2016, 12, 31, 15, 59, 60, 0, -480}, 17166, 86400, Label{2016, 12, 31, 23, 59, 60, 0, 0}},
		{Label{2017, 1, 1, 5, 29, 60, 9, 330}, 17166, 86400, Label{2016, 12, 31, 23, 59, 60, 9, 0}},
		{Label{2000, 3, 1, 0, 0, 0, 1, 1}, 11016, 86340, Label{2000, 2, 29, 23, 59, 0, 1, 0}},
		{Label{2001, 2, 28, 23, 59, 59, 1, -1}, 11382, 59, Label{2001, 3, 1, 0, 0, 59, 1, 0}},
		{Label{1969, 12, 31, 0, 0, 0, 0, -1439}, -1, 86340, Label{1969, 12, 31, 23, 59, 0, 0, 0}},
		{Label{1970, 1, 1, 0, 0, 0, 0, 1439}, -1, 60, Label{1969, 12, 31, 0, 1, 0, 0, 0}},
		{Label{0, 1, 1, 12, 0, 0, 0, 720}, -719528, 0, Label{0, 1, 1, 0, 0, 0, 0, 0}},
		{Label{-9999, 1, 1, 23, 59, 0, 0, 1439}, first, 0, Label{-9999, 1, 1, 0, 0, 0, 0, 0}},
		{Label{9999, 12, 31, 0, 0, 60, 0, -1439}, last, 86400, Label{9999, 12, 31, 23, 59, 60, 0, 0}},
	} {
		if n, second, err := Split(c.l); n != c.n || second != c.second || err != nil {
			t.Errorf("Split of %+v: %d, %d, %v", c, n, second, err)
		}
		if l, err := Of(c.n, c.second, c.l.Nano, c.l.Offset); l != c.l || err != nil {
			t.Errorf("Of %+v: %+v, %v", c, l, err)
		}
		if u, err := UTC(c.l); u != c.utc || err != nil {
			t.Errorf("UTC of %+v: %+v, %v", c, u, err)
		}
		if l, err := At(c.utc, c.l.Offset); l != c.l || err != nil {
			t.Errorf("At of %+v: %+v, %v", c, l, err)
		}
		if Leap(c.l) != (c.second == 86400) || Leap(c.utc) != (c.second == 86400) {
			t.Errorf("Leap of %+v: %t, %t", c, Leap(c.l), Leap(c.utc))
		}
	}
}

// P8.1: of several errors, the one that the chapter names first.
func TestFirstError(t *testing.T) {
	for _, c := range []struct {
		l    Label
		want error
	}{
		{Label{}, api.ErrRange}, // year 0 is a year, but month 0 is none
		{Label{10000, 0, 0, 24, 60, 61, -1, 1440}, api.ErrYear},
		{Label{9999, 0, 0, 24, 60, 61, -1, 1440}, api.ErrRange},
		{Label{9999, 2, 29, 23, 59, 60, 0, -1}, api.ErrRange},
		{Label{9999, 12, 31, 23, 59, 0, -1, -1}, api.ErrRange},
		{Label{9999, 12, 31, 23, 59, 60, 0, -1}, api.ErrYear},
		{Label{9999, 12, 31, 23, 59, 60, 0, -1440}, api.ErrRange},
		{Label{9999, 12, 31, 23, 58, 60, 0, -1}, nil},
		{Label{9999, 12, 31, 23, 58, 60, 0, 0}, api.ErrLeap},
		{Label{-9999, 1, 1, 0, 0, 60, 0, 1}, api.ErrYear}, // the date of its moment doesn't exist, though its minute is the last
		{Label{-9999, 1, 1, 0, 0, 61, 0, 1}, api.ErrRange},
		{Label{-9999, 1, 1, 0, 0, 60, 0, 0}, api.ErrLeap},
		{Label{2016, 12, 31, 23, 59, 60, 0, 1}, api.ErrLeap},
		{Label{2016, 12, 31, 23, 59, 60, 1000000000, 1}, api.ErrRange},
	} {
		if err := Check(c.l); err != c.want {
			t.Errorf("Check of %+v: %v; want %v", c.l, err, c.want)
		}
		for _, offset := range []int{-1440, -1, 0, 1, 1440} {
			checkAt(t, c.l, offset)
		}
	}
}

// P8.1
func TestClock(t *testing.T) {
	second := 0
	for hour := range 24 {
		for minute := range 60 {
			for rest := range 60 {
				if h, m, s, err := Clock(second); h != hour || m != minute || s != rest || err != nil {
					t.Fatalf("Clock of %d: %d, %d, %d, %v", second, h, m, s, err)
				}
				second++
			}
		}
	}
	if h, m, s, err := Clock(second); h != 23 || m != 59 || s != 60 || err != nil {
		t.Errorf("Clock of %d: %d, %d, %d, %v", second, h, m, s, err)
	}
	for _, second := range []int{-1, -2, -60, -86400, 86401, 86402, 86460, 172800} {
		if h, m, s, err := Clock(second); h != 0 || m != 0 || s != 0 || err != api.ErrRange {
			t.Errorf("Clock of %d: %d, %d, %d, %v", second, h, m, s, err)
		}
	}
}

// moments are labels of moments that are beside each other or far apart, each at many offsets, and for each the place of its moment among all.
func moments(t *testing.T) (list []Label, places []int) {
	place := 0
	for _, n := range []int64{first, -1, 0, 17166, 17167, last} {
		for _, second := range []int{0, 1, 59, 60, 3599, 3600, 43200, 86339, 86340, 86398, 86399, 86400} {
			for _, nano := range []int{0, 1, 999999999} {
				for _, offset := range []int{-1439, -480, -1, 0, 1, 330, 1439} {
					l, err := Of(n, second, nano, offset)
					if err == api.ErrYear && (n == first || n == last) {
						continue
					}
					if err != nil {
						t.Fatalf("Of %d, %d, %d, %d: %v", n, second, nano, offset, err)
					}
					list, places = append(list, l), append(places, place)
				}
				place++
			}
		}
	}
	return list, places
}

// P8.1, P8.2: the order is that of the moments, whatever the offsets.
func TestOrder(t *testing.T) {
	list, places := moments(t)
	for i, a := range list {
		for j, b := range list {
			want := cmp.Compare(places[i], places[j])
			if c, err := Compare(a, b); c != want || err != nil {
				t.Fatalf("Compare of %+v and %+v: %d, %v; want %d", a, b, c, err, want)
			}
		}
	}
}

// P8.2: labels sort to the same moments from any sequence.
func TestSorting(t *testing.T) {
	list, _ := moments(t)
	mixed := make([]Label, 0, len(list))
	for i := range list { // 1009 is prime and no part of the length, so each label comes once
		mixed = append(mixed, list[i*1009%len(list)])
	}
	slices.SortStableFunc(mixed, func(a, b Label) int {
		c, err := Compare(a, b)
		if err != nil {
			t.Fatalf("Compare of %+v and %+v: %v", a, b, err)
		}
		return c
	})
	for i, l := range mixed {
		if c, err := Compare(l, list[i]); c != 0 || err != nil {
			t.Fatalf("after sorting, %+v is where %+v belongs: %d, %v", l, list[i], c, err)
		}
	}
}

// P8.1: the first label's error is told before the second's.
func TestCompareErrors(t *testing.T) {
	good := Label{2016, 12, 31, 23, 59, 60, 0, 0}
	year := Label{10000, 1, 1, 0, 0, 0, 0, 0}
	form := Label{2016, 13, 1, 0, 0, 0, 0, 0}
	leap := Label{2016, 12, 31, 23, 58, 60, 0, 0}
	for _, c := range []struct {
		a, b Label
		want error
	}{
		{good, year, api.ErrYear}, {year, good, api.ErrYear}, {good, form, api.ErrRange}, {form, good, api.ErrRange}, {good, leap, api.ErrLeap}, {leap, good, api.ErrLeap},
		{year, form, api.ErrYear}, {form, year, api.ErrRange}, {leap, year, api.ErrLeap}, {year, leap, api.ErrYear}, {leap, form, api.ErrLeap}, {form, leap, api.ErrRange},
		{leap, leap, api.ErrLeap}, {form, form, api.ErrRange}, {good, good, nil},
	} {
		if got, err := Compare(c.a, c.b); got != 0 || err != c.want {
			t.Errorf("Compare of %+v and %+v: %d, %v; want 0, %v", c.a, c.b, got, err, c.want)
		}
	}
}

// P8.1: a second 60 is after the second 59 of its minute, and before the next day.
func TestLeapSecondIsBetween(t *testing.T) {
	before := Label{2016, 12, 31, 23, 59, 59, 999999999, 0}
	within := Label{2017, 1, 1, 8, 59, 60, 0, 540}
	later := Label{2016, 12, 31, 18, 59, 60, 999999999, -300}
	after := Label{2017, 1, 1, 0, 0, 0, 0, 0}
	list := []Label{before, within, later, after}
	for i, a := range list {
		for j, b := range list {
			if c, err := Compare(a, b); c != cmp.Compare(i, j) || err != nil {
				t.Errorf("Compare of %+v and %+v: %d, %v", a, b, c, err)
			}
		}
	}
	for i, l := range list {
		if Leap(l) != (i == 1 || i == 2) {
			t.Errorf("Leap of %+v: %t", l, Leap(l))
		}
	}
}
