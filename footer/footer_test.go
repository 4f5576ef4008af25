package footer

import (
	"encoding/binary"
	"math"
	"slices"
	"strconv"
	"testing"
	"time"

	"horologe/api"
	"horologe/posix"
	"horologe/rule"
)

const (
	firstSecond = -377705116800 // the first one of the year -9999
	lastSecond  = 253402300799  // the last one of the year 9999
	daySeconds  = 86400
)

// random makes numbers that look random, the same in each run.
type random uint64

func (r *random) next() uint64 {
	*r ^= *r << 13
	*r ^= *r >> 7
	*r ^= *r << 17
	return uint64(*r)
}

// below is a number from 0 to n - 1.
func (r *random) below(n int) int {
	return int(r.next() % uint64(n))
}

// offset is a random offset, often of whole hours.
func (r *random) offset() int {
	n := r.below(2*89999+1) - 89999
	if r.below(2) == 0 {
		return n / 3600 * 3600
	}
	return n
}

// rule is a random rule of any kind, often about the end of a year.
func (r *random) rule() rule.Rule {
	seconds := []int{7200, 0, -3600, 604799, -604799, r.below(604800), -r.below(604800)}[r.below(7)]
	switch r.below(5) {
	case 0:
		return rule.Rule{Kind: 1, Day: 1 + r.below(365), Time: seconds}
	case 1:
		return rule.Rule{Kind: 2, Day: r.below(366), Time: seconds}
	case 2:
		return rule.Rule{Kind: 2, Day: []int{0, 1, 6, 7, 358, 359, 364, 365}[r.below(8)], Time: seconds}
	case 3:
		return rule.Rule{Kind: 3, Month: []int{1, 12}[r.below(2)], Week: 1 + r.below(5), Day: r.below(7), Time: seconds}
	}
	return rule.Rule{Kind: 3, Month: 1 + r.below(12), Week: 1 + r.below(5), Day: r.below(7), Time: seconds}
}

// plan is a random plan with daylight saving time.
func (r *random) plan() posix.Plan {
	p := posix.Plan{Name: "AAA", Summer: "BBB", Offset: r.offset(), Begin: r.rule(), End: r.rule()}
	p.Ahead = min(p.Offset+3600, 89999)
	if r.below(2) == 0 {
		p.Ahead = r.offset()
	}
	if r.below(4) == 0 {
		p.End = p.Begin
		p.End.Time = max(-604799, min(604799, p.Begin.Time+p.Ahead-p.Offset)) // so that both coincide
	}
	return p
}

// second is a random second of the years with dates.
func (r *random) second() int64 {
	return firstSecond + int64(r.next()%(lastSecond-firstSecond+1))
}

// parse is a text's plan.
func parse(t *testing.T, s string) posix.Plan {
	t.Helper()
	p, err := posix.Parse(s)
	if err != nil {
		t.Fatalf("Parse of %q: %v", s, err)
	}
	return p
}

// wantDay is a rule's day in a year, by the library's calendar.
func wantDay(r rule.Rule, year int) time.Time {
	date := func(month, day int) time.Time {
		return time.Date(year, time.Month(month), day, 0, 0, 0, 0, time.UTC)
	}
	switch r.Kind {
	case rule.Plain:
		like := time.Date(2023, 1, r.Day, 0, 0, 0, 0, time.UTC) // a year without 29 February
		return date(int(like.Month()), like.Day())
	case rule.Counted:
		return date(1, 1+r.Day)
	}
	if r.Week == 5 {
		d := date(r.Month+1, 0)
		return d.AddDate(0, 0, -((int(d.Weekday()) - r.Day + 7) % 7))
	}
	d := date(r.Month, 1)
	return d.AddDate(0, 0, (r.Day-int(d.Weekday())+7)%7+7*(r.Week-1))
}

// history are all turns of a plan, year by year from -10001 to 10001.
type history struct {
	plan         posix.Plan
	begins, ends []int64
}

// historyOf counts a plan's turns.
func historyOf(p posix.Plan) history {
	h := history{plan: p}
	if p.Summer == "" {
		return h
	}
	for year := -10001; year <= 10001; year++ {
		h.begins = append(h.begins, wantDay(p.Begin, year).Unix()+int64(p.Begin.Time)-int64(p.Offset))
		h.ends = append(h.ends, wantDay(p.End, year).Unix()+int64(p.End.Time)-int64(p.Ahead))
	}
	return h
}

// turns are all turns, rising, each once.
func (h history) turns() []int64 {
	list := append(slices.Clone(h.begins), h.ends...)
	slices.Sort(list)
	return slices.Compact(list)
}

// last is the last of a list that isn't after a second.
func last(list []int64, t int64) int64 {
	i, there := slices.BinarySearch(list, t)
	if there {
		return list[i]
	}
	return list[i-1]
}

// first is the first of a list after a second.
func first(list []int64, t int64) int64 {
	i, there := slices.BinarySearch(list, t)
	if there {
		i++
	}
	return list[i]
}

// local is how clocks stand, by the chapter.
func (h history) local(t int64) Local {
	if h.begins == nil || last(h.begins, t) < last(h.ends, t) {
		return Local{h.plan.Offset, false, h.plan.Name}
	}
	return Local{h.plan.Ahead, true, h.plan.Summer}
}

// held holds At and Next against the chapter at a second.
func (h history) held(t *testing.T, second int64) {
	t.Helper()
	dated := second >= firstSecond && second <= lastSecond
	var want Local
	var turn int64
	var fault error
	there := dated && h.begins != nil
	if dated {
		want = h.local(second)
	} else {
		fault = api.ErrYear
	}
	if there {
		turn = min(first(h.begins, second), first(h.ends, second))
	}
	if l, err := At(h.plan, second); l != want || err != fault {
		t.Fatalf("At of %+v, %d: %+v, %v; want %+v, %v", h.plan, second, l, err, want, fault)
	}
	if n, is, err := Next(h.plan, second); n != turn || is != there || err != fault {
		t.Fatalf("Next of %+v, %d: %d, %v, %v; want %d, %v, %v", h.plan, second, n, is, err, turn, there, fault)
	}
}

// heldAbout holds At and Next against the chapter at a second and about it.
func (h history) heldAbout(t *testing.T, second int64) {
	t.Helper()
	for _, by := range []int64{-daySeconds, -3600, -1, 0, 1, 3600, daySeconds} {
		h.held(t, second+by)
	}
}

// yearHeld holds Turns and Year against the chapter.
func (h history) yearHeld(t *testing.T, year int) {
	t.Helper()
	var begin, end int64
	var fault error
	var want []int64
	switch {
	case h.begins == nil:
		fault = api.ErrNone
	case year < -10001 || year > 10001:
		fault = api.ErrYear
	default:
		begin, end = h.begins[year+10001], h.ends[year+10001]
		want = []int64{begin, end}
		slices.Sort(want)
		want = slices.Compact(want)
	}
	if b, e, err := Turns(h.plan, year); b != begin || e != end || err != fault {
		t.Fatalf("Turns of %+v, %d: %d, %d, %v; want %d, %d, %v", h.plan, year, b, e, err, begin, end, fault)
	}
	if l, err := Year(h.plan, year); !slices.Equal(l, want) || err != fault {
		t.Fatalf("Year of %+v, %d: %d, %v; want %d, %v", h.plan, year, l, err, want, fault)
	}
}

// far are plans whose turns are as far out of their years as can be, or coincide in all years or in some.
func far() []posix.Plan {
	soon := rule.Rule{Kind: rule.Counted, Time: -604799}          // with an offset of 89999, eight days before a year
	late := rule.Rule{Kind: rule.Counted, Day: 365, Time: 604799} // with an offset of -89999, eight days after it
	plain := rule.Rule{Kind: rule.Plain, Day: 60, Time: 0}
	counted := rule.Rule{Kind: rule.Counted, Day: 59, Time: 0} // the same day in years without 29 February
	weekly := rule.Rule{Kind: rule.Weekly, Month: 3, Week: 4, Time: 7200}
	final := rule.Rule{Kind: rule.Weekly, Month: 3, Week: 5, Time: 7200} // the same day in some years
	var list []posix.Plan
	for _, pair := range [][2]rule.Rule{
		{soon, late}, {late, soon}, {soon, soon}, {late, late}, {plain, counted}, {counted, plain},
		{plain, plain}, {counted, counted}, {weekly, final}, {final, weekly}, {soon, weekly}, {weekly, late},
	} {
		for _, offsets := range [][2]int{{-89999, -89999}, {89999, 89999}, {-89999, 89999}, {89999, -89999}, {0, 0}, {3600, 0}, {0, 3600}} {
			list = append(list, posix.Plan{Name: "STD", Summer: "DST", Offset: offsets[0], Ahead: offsets[1], Begin: pair[0], End: pair[1]})
		}
	}
	return list
}

// texts are plans' texts, of real places and of clocks that go oddly.
var texts = []string{
	"EST5EDT,M3.2.0,M11.1.0",
	"CET-1CEST,M3.5.0,M10.5.0/3",
	"<+1030>-10:30<+11>-11,M10.1.0,M4.1.0",
	"IST-1GMT0,M10.5.0,M3.5.0/1",
	"<-02>2<-01>,M3.5.0/-1,M10.5.0/0",
	"XXX3YYY2,0/0,J365/25",    // always daylight saving time
	"XXX3YYY2,0/0,J365/23",    // for all but two hours at the end of a year
	"XXX3YYY2,J365/25,0/0",    // never, but for the hours after a year's end
	"AAA-24BBB-24,J1/-167,J2", // the Begin is in the year before
	"UTC0",
	"<-03>3",
}

// plans are those of the texts, and those whose turns are far.
func plans(t *testing.T) []posix.Plan {
	t.Helper()
	var list []posix.Plan
	for _, s := range texts {
		list = append(list, parse(t, s))
	}
	return append(list, far()...)
}

// P18.1: the examples of the document, and others, by hand.
func TestByHand(t *testing.T) {
	for i, c := range []struct {
		plan string
		t    int64
		want Local
	}{
		{"EST5EDT,M3.2.0,M11.1.0", 1710053999, Local{-18000, false, "EST"}}, // 10 March 2024
		{"EST5EDT,M3.2.0,M11.1.0", 1710054000, Local{-14400, true, "EDT"}},
		{"EST5EDT,M3.2.0,M11.1.0", 1730613599, Local{-14400, true, "EDT"}}, // 3 November 2024
		{"EST5EDT,M3.2.0,M11.1.0", 1730613600, Local{-18000, false, "EST"}},
		{"EST5EDT,M3.2.0,M11.1.0", 0, Local{-18000, false, "EST"}},
		{"EST5EDT,M3.2.0,M11.1.0", firstSecond, Local{-18000, false, "EST"}},
		{"EST5EDT,M3.2.0,M11.1.0", lastSecond, Local{-18000, false, "EST"}},
		{"<+1030>-10:30<+11>-11,M10.1.0,M4.1.0", 1704067200, Local{39600, true, "+11"}}, // 1 January 2024
		{"<+1030>-10:30<+11>-11,M10.1.0,M4.1.0", 1712415599, Local{39600, true, "+11"}}, // 7 April 2024
		{"<+1030>-10:30<+11>-11,M10.1.0,M4.1.0", 1712415600, Local{37800, false, "+1030"}},
		{"<+1030>-10:30<+11>-11,M10.1.0,M4.1.0", firstSecond, Local{39600, true, "+11"}},
		{"<+1030>-10:30<+11>-11,M10.1.0,M4.1.0", lastSecond, Local{39600, true, "+11"}},
		{"XXX3YYY2,0/0,J365/25", 1704077999, Local{-7200, true, "YYY"}},
		{"XXX3YYY2,0/0,J365/25", 1704078000, Local{-7200, true, "YYY"}}, // both turns at once
		{"XXX3YYY2,0/0,J365/23", 1704070799, Local{-7200, true, "YYY"}},
		{"XXX3YYY2,0/0,J365/23", 1704070800, Local{-10800, false, "XXX"}},
		{"XXX3YYY2,0/0,J365/23", 1704077999, Local{-10800, false, "XXX"}},
		{"XXX3YYY2,0/0,J365/23", 1704078000, Local{-7200, true, "YYY"}},
		{"AAA0BBB,365/167:59:59,J180", 1704671998, Local{0, false, "AAA"}}, // 8 January 2024 is still before the Begin of 2023
		{"AAA0BBB,365/167:59:59,J180", 1704671999, Local{3600, true, "BBB"}},
		{"AAA0BBB,J180,0/-167:59:59", 1703458800, Local{3600, true, "BBB"}}, // 24 December 2023
		{"AAA0BBB,J180,0/-167:59:59", 1703458801, Local{0, false, "AAA"}},   // the End of 2024 is in the year before
		{"UTC0", 0, Local{0, false, "UTC"}},
		{"<-03>3", lastSecond, Local{-10800, false, "-03"}},
	} {
		if l, err := At(parse(t, c.plan), c.t); l != c.want || err != nil {
			t.Errorf("%d: At of %s, %d: %+v, %v; want %+v", i, c.plan, c.t, l, err, c.want)
		}
	}
}

// P18.1: a year's turns, and the next ones, by hand.
func TestTurnsByHand(t *testing.T) {
	east := parse(t, "EST5EDT,M3.2.0,M11.1.0")
	south := parse(t, "<+1030>-10:30<+11>-11,M10.1.0,M4.1.0")
	both := parse(t, "XXX3YYY2,0/0,J365/25")
	for i, c := range []struct {
		p          posix.Plan
		year       int
		begin, end int64
		list       []int64
	}{
		{east, 2024, 1710054000, 1730613600, []int64{1710054000, 1730613600}},
		{south, 2024, 1728142200, 1712415600, []int64{1712415600, 1728142200}}, // rising, although the End is the first
		{both, 2024, 1704078000, 1735700400, []int64{1704078000, 1735700400}},
		{parse(t, "AAA0BBB0,J60/0,J60/0"), 2024, 1709251200, 1709251200, []int64{1709251200}}, // one, since both are the same
		{parse(t, "AAA0BBB0,59/0,J60/0"), 2023, 1677628800, 1677628800, []int64{1677628800}},
		{parse(t, "AAA0BBB0,59/0,J60/0"), 2024, 1709164800, 1709251200, []int64{1709164800, 1709251200}},
	} {
		if b, e, err := Turns(c.p, c.year); b != c.begin || e != c.end || err != nil {
			t.Error(i, b, e, err)
		}
		if l, err := Year(c.p, c.year); !slices.Equal(l, c.list) || err != nil {
			t.Error(i, l, err)
		}
	}
	for i, c := range []struct {
		p       posix.Plan
		t, turn int64
	}{
		{east, 1710053999, 1710054000},
		{east, 1710054000, 1730613600}, // a turn isn't after itself
		{east, 1730613599, 1730613600},
		{east, 1730613600, 1741503600}, // 9 March 2025
		{both, 1704077999, 1704078000},
		{both, 1704078000, 1735700400},
		{east, lastSecond, 253408460400}, // 12 March 10000, which has no date
	} {
		if n, there, err := Next(c.p, c.t); n != c.turn || !there || err != nil {
			t.Error(i, n, there, err)
		}
	}
	if n, there, err := Next(parse(t, "UTC0"), 0); n != 0 || there || err != nil {
		t.Error(n, there, err)
	}
}

// years are those about the first one and the last one with dates, and a whole cycle of the calendar with its neighbours.
func years() []int {
	var list []int
	for year := -10001; year <= 10001; year++ {
		if year <= -9990 || year >= 1799 && year <= 2201 || year >= 9990 {
			list = append(list, year)
		}
	}
	return list
}

// P18.1: before, at and after each turn, in all years for the plans of the texts.
func TestAllYears(t *testing.T) {
	for _, s := range texts {
		h := historyOf(parse(t, s))
		for year := -10003; year <= 10003; year++ {
			h.yearHeld(t, year)
		}
		for _, turn := range h.turns() {
			for by := int64(-1); by <= 1; by++ {
				h.held(t, turn+by)
			}
		}
	}
	for _, p := range far() {
		h := historyOf(p)
		for _, year := range years() {
			h.yearHeld(t, year)
			for _, turn := range []int64{h.begins[year+10001], h.ends[year+10001]} {
				for by := int64(-1); by <= 1; by++ {
					h.held(t, turn+by)
				}
			}
		}
	}
}

// P18.1: where the dates begin and end.
func TestEdges(t *testing.T) {
	for _, p := range plans(t) {
		h := historyOf(p)
		for _, second := range []int64{firstSecond, lastSecond, 0} {
			h.heldAbout(t, second)
		}
	}
}

// P18.1: about the ends of years, where the turn that counts may be one of another year.
func TestYearEnds(t *testing.T) {
	for _, p := range far() {
		h := historyOf(p)
		for _, year := range []int{-9999, -9998, -9996, 0, 1, 2024, 2025, 9998, 9999, 10000} {
			start := time.Date(year, 1, 1, 0, 0, 0, 0, time.UTC).Unix()
			for hours := int64(-240); hours <= 240; hours++ {
				for by := int64(-1); by <= 1; by++ {
					h.held(t, start+3600*hours+by)
				}
			}
		}
	}
}

// P18.1: random plans at random seconds, and about their turns.
func TestRandom(t *testing.T) {
	r := random(18)
	for range 150 {
		h := historyOf(r.plan())
		turns := h.turns()
		for range 300 {
			h.held(t, r.second())
			h.heldAbout(t, turns[r.below(len(turns))])
			h.yearHeld(t, r.below(20003)-10001)
		}
		for i := range 6 {
			h.heldAbout(t, turns[i])
			h.heldAbout(t, turns[len(turns)-1-i])
		}
		for _, second := range []int64{firstSecond, lastSecond, math.MinInt64 + daySeconds, math.MaxInt64 - daySeconds} {
			h.heldAbout(t, second)
		}
		for _, year := range []int{-10001, -10000, -9999, 9999, 10000, 10001, -10002, 10002, math.MinInt, math.MaxInt, math.MinInt + 1, 1 << 32} {
			h.yearHeld(t, year)
		}
	}
}

// P18.1: an error of the plan is told first, then that it has no daylight saving time, and then the year or the second.
func TestErrors(t *testing.T) {
	good := rule.Rule{Kind: rule.Counted}
	seconds := []int64{0, firstSecond, lastSecond, firstSecond - 1, lastSecond + 1, math.MinInt64, math.MaxInt64}
	years := []int{0, 2024, -10001, 10001, -10002, 10002, math.MinInt, math.MaxInt}
	for i, c := range []struct {
		p    posix.Plan
		want error
	}{
		{posix.Plan{}, api.ErrForm},
		{posix.Plan{Name: "UT"}, api.ErrForm},
		{posix.Plan{Name: "UTC", Ahead: 3600}, api.ErrForm},
		{posix.Plan{Name: "UTC", Begin: good}, api.ErrForm},
		{posix.Plan{Name: "UTC", Summer: "U D", Begin: good, End: good}, api.ErrForm},
		{posix.Plan{Name: "UTC", Offset: 90000}, api.ErrRange},
		{posix.Plan{Name: "UTC", Offset: -90000}, api.ErrRange},
		{posix.Plan{Name: "UTC", Summer: "UTD", Ahead: 90000, Begin: good, End: good}, api.ErrRange},
		{posix.Plan{Name: "UTC", Summer: "UTD"}, api.ErrKind},
		{posix.Plan{Name: "UTC", Summer: "UTD", Begin: good}, api.ErrKind},
		{posix.Plan{Name: "UTC", Summer: "UTD", Begin: good, End: rule.Rule{Kind: rule.Plain}}, api.ErrRange},
		{posix.Plan{Name: "UTC", Summer: "UTD", Begin: rule.Rule{Kind: rule.Counted, Time: 604800}, End: rule.Rule{Kind: 4}}, api.ErrRange},
	} {
		for _, second := range seconds {
			if l, err := At(c.p, second); l != (Local{}) || err != c.want {
				t.Error(i, second, l, err)
			}
			if n, there, err := Next(c.p, second); n != 0 || there || err != c.want {
				t.Error(i, second, n, there, err)
			}
		}
		for _, year := range years {
			if b, e, err := Turns(c.p, year); b != 0 || e != 0 || err != c.want {
				t.Error(i, year, b, e, err)
			}
			if l, err := Year(c.p, year); len(l) != 0 || err != c.want {
				t.Error(i, year, l, err)
			}
		}
	}
	for _, s := range []string{"UTC0", "<-03>3", "EST5EDT,M3.2.0,M11.1.0"} {
		h := historyOf(parse(t, s))
		for _, second := range seconds {
			h.held(t, second)
		}
		for _, year := range years {
			h.yearHeld(t, year)
		}
	}
}

// P18.1: what Year returns is new each time.
func TestFresh(t *testing.T) {
	p := parse(t, texts[0])
	a, _ := Year(p, 2024)
	a[0], a[1] = 0, 0
	if b, err := Year(p, 2024); !slices.Equal(b, []int64{1710054000, 1730613600}) || err != nil {
		t.Error(b, err)
	}
}

// P18.2: from one turn to the next nothing changes, and Next tells every turn in its order.
func TestBetweenTurns(t *testing.T) {
	r := random(182)
	for k, p := range plans(t) {
		if k%4 > 0 && k >= len(texts) { // the others are many, and each of them has twenty thousand years
			continue
		}
		turns := historyOf(p).turns()
		from, i := int64(firstSecond), 0
		for i < len(turns) && turns[i] <= from {
			i++
		}
		for from <= lastSecond {
			stands, err := At(p, from)
			if err != nil {
				t.Fatal(p, from, err)
			}
			next, there, err := Next(p, from)
			if there != (p.Summer != "") || err != nil {
				t.Fatal(p, from, next, there, err)
			}
			if !there {
				next = lastSecond + 1
			} else if next != turns[i] {
				t.Fatalf("%+v: Next of %d is %d; want %d", p, from, next, turns[i])
			}
			i++
			till := min(next-1, lastSecond)
			for _, second := range []int64{till, min(from+1, till), from + int64(r.next()%uint64(till-from+1))} {
				if l, err := At(p, second); l != stands || err != nil {
					t.Fatalf("%+v: %+v, %v at %d, but %+v at %d, and no turn till %d", p, l, err, second, stands, from, next)
				}
			}
			from = next
		}
	}
}

// P18.3: at a Begin there is daylight saving time, whether an End coincides with it or not.
func TestBegins(t *testing.T) {
	coincide := 0
	for _, p := range plans(t) {
		if p.Summer == "" {
			continue
		}
		for _, year := range years() {
			begin, end, err := Turns(p, year)
			if err != nil {
				t.Fatal(p, year, err)
			}
			if begin < firstSecond || begin > lastSecond {
				continue
			}
			if l, err := At(p, begin); l != (Local{p.Ahead, true, p.Summer}) || err != nil {
				t.Fatalf("%+v: %+v, %v at the Begin of %d, %d", p, l, err, year, begin)
			}
			if begin == end {
				coincide++
			}
		}
	}
	if coincide == 0 {
		t.Error("no turns coincide")
	}
}

// fileOf is a zone file with one change long ago, and a text for all that follows.
func fileOf(text string) []byte {
	header := func(counts ...uint32) []byte {
		b := append([]byte("TZif2"), make([]byte, 15)...)
		for _, n := range counts {
			b = binary.BigEndian.AppendUint32(b, n)
		}
		return b
	}
	b := header(0, 0, 0, 0, 0, 0)
	b = append(b, header(0, 0, 0, 1, 1, 4)...)
	b = binary.BigEndian.AppendUint64(b, 0)
	b = append(b, 0)                // the change's type
	b = append(b, 0, 0, 0, 0, 0, 0) // the type
	return append(b, "LMT\x00\n"+text+"\n"...)
}

// P18.1: clocks stand as the library finds, where no turn is out of its year, since the library looks at one year alone.
func TestLibrary(t *testing.T) {
	r := random(1818)
	for i := range 300 {
		p := r.plan()
		p.Begin = rule.Rule{Kind: 3, Month: 2 + r.below(4), Week: 1 + r.below(5), Day: r.below(7), Time: r.below(100000)}
		p.End = rule.Rule{Kind: 3, Month: 7 + r.below(5), Week: 1 + r.below(5), Day: r.below(7), Time: r.below(100000)}
		if r.below(2) == 0 {
			p.Begin, p.End = p.End, p.Begin
		}
		s, err := posix.Put(p)
		if err != nil {
			t.Fatal(p, err)
		}
		place, err := time.LoadLocationFromTZData(strconv.Itoa(i), fileOf(s))
		if err != nil {
			t.Fatal(s, err)
		}
		for range 300 {
			second := int64(r.next() % lastSecond)
			if r.below(2) == 0 {
				begin, end, err := Turns(p, 1971+r.below(8000))
				if err != nil {
					t.Fatal(s, err)
				}
				second = []int64{begin, begin - 1, end, end - 1}[r.below(4)]
			}
			at := time.Unix(second, 0).In(place)
			name, offset := at.Zone()
			want := Local{offset, at.IsDST(), name}
			if l, err := At(p, second); l != want || err != nil {
				t.Fatalf("At of %s, %d: %+v, %v; want %+v", s, second, l, err, want)
			}
		}
	}
}
