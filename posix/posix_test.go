package posix

import (
	"encoding/binary"
	"math"
	"regexp"
	"strconv"
	"strings"
	"testing"
	"time"

	"horologe/api"
	"horologe/rule"
)

// random makes numbers that look random, the same in each run.
type random uint64

func (r *random) next() uint64 {
	*r ^= *r << 13
	*r ^= *r >> 7
	*r ^= *r << 17
	return uint64(*r)
}

// below is a number from 0 to n - 1.
func (r *random) below(n int) int {
	return int(r.next() % uint64(n))
}

// name is a random name, often of letters alone.
func (r *random) name() string {
	const bytes = "ABCXYZabcxyz0159+-"
	most := len(bytes)
	if r.below(2) == 0 {
		most = 12
	}
	s := ""
	for range 3 + r.below(14) {
		i := r.below(most)
		s += bytes[i : i+1]
	}
	return s
}

// offset is a random offset, often of whole hours or minutes.
func (r *random) offset() int {
	n := r.below(2*89999+1) - 89999
	switch r.below(3) {
	case 0:
		return n / 3600 * 3600
	case 1:
		return n / 60 * 60
	}
	return n
}

// rule is a random rule of any kind.
func (r *random) rule() rule.Rule {
	seconds := []int{7200, 0, -3600, 5400, 604799, -604799, r.below(604800)}[r.below(7)]
	switch r.below(3) {
	case 0:
		return rule.Rule{Kind: 1, Day: 1 + r.below(365), Time: seconds}
	case 1:
		return rule.Rule{Kind: 2, Day: r.below(366), Time: seconds}
	}
	return rule.Rule{Kind: 3, Month: 1 + r.below(12), Week: 1 + r.below(5), Day: r.below(7), Time: seconds}
}

// plan is a random plan.
func (r *random) plan() Plan {
	p := Plan{Name: r.name(), Offset: r.offset()}
	if r.below(4) == 0 {
		return p
	}
	p.Summer, p.Begin, p.End = r.name(), r.rule(), r.rule()
	p.Ahead = p.Offset + 3600
	if p.Ahead > 89999 || r.below(2) == 0 {
		p.Ahead = r.offset()
	}
	return p
}

var (
	nameShape   = regexp.MustCompile(`^[A-Za-z0-9+-]{3,16}\z`)
	letterShape = regexp.MustCompile(`^[A-Za-z]*\z`)
	// halfShape is a name, a clock time or nothing, and the rest.
	halfShape = regexp.MustCompile(`(?s)^(?:([A-Za-z]+)|<([^>]*)>)([0-9:+-]*)(.*)\z`)
	// rulesShape are two rules behind their commas, the second of which may not be there, and the rest.
	rulesShape = regexp.MustCompile(`(?s)^,([^,]*)(?:(,)([^,]*)(.*))?\z`)
)

// wantCheck is the chapter's error of a plan.
func wantCheck(p Plan) error {
	var none rule.Rule
	switch {
	case !nameShape.MatchString(p.Name):
		return api.ErrForm
	case p.Summer != "" && !nameShape.MatchString(p.Summer):
		return api.ErrForm
	case p.Summer == "" && (p.Ahead != 0 || p.Begin != none || p.End != none):
		return api.ErrForm
	case p.Offset < -89999 || p.Offset > 89999 || p.Ahead < -89999 || p.Ahead > 89999:
		return api.ErrRange
	case p.Summer == "":
		return nil
	case rule.Check(p.Begin) != nil:
		return rule.Check(p.Begin)
	}
	return rule.Check(p.End)
}

// wantName is the chapter's text of a name.
func wantName(name string) string {
	if letterShape.MatchString(name) {
		return name
	}
	return "<" + name + ">"
}

// wantOffset is the chapter's text of an offset.
func wantOffset(offset int) string {
	s, err := rule.PutClock(-offset, 24)
	if err != nil {
		panic(err)
	}
	return s
}

// wantPut is the chapter's text of a plan, or its error.
func wantPut(p Plan) (string, error) {
	if err := wantCheck(p); err != nil {
		return "", err
	}
	parts := []string{wantName(p.Name) + wantOffset(p.Offset)}
	if p.Summer == "" {
		return parts[0], nil
	}
	parts[0] += wantName(p.Summer)
	if p.Ahead-p.Offset != 3600 {
		parts[0] += wantOffset(p.Ahead)
	}
	for _, r := range []rule.Rule{p.Begin, p.End} {
		s, err := rule.Put(r)
		if err != nil {
			return "", err
		}
		parts = append(parts, s)
	}
	return strings.Join(parts, ","), nil
}

// wantHalf is the name and the offset at a text's beginning, and the rest. An offset that may be missing is told as what it is then.
func wantHalf(s string, missing bool, usual int) (name string, offset int, rest string, err error) {
	parts := halfShape.FindStringSubmatch(s)
	if parts == nil || !nameShape.MatchString(parts[1]+parts[2]) {
		return "", 0, "", api.ErrForm
	}
	name, rest = parts[1]+parts[2], parts[4]
	if missing && parts[3] == "" && strings.HasPrefix(rest, ",") {
		return name, usual, rest, nil
	}
	seconds, err := rule.ParseClock(parts[3], 24)
	return name, -seconds, rest, err
}

// wantParse is the chapter's plan of a text, or its first error from the left.
func wantParse(s string) (Plan, error) {
	var p Plan
	var err error
	rest := ""
	if p.Name, p.Offset, rest, err = wantHalf(s, false, 0); err != nil {
		return Plan{}, err
	}
	if rest == "" {
		return p, nil
	}
	if p.Summer, p.Ahead, rest, err = wantHalf(rest, true, p.Offset+3600); err != nil {
		return Plan{}, err
	}
	parts := rulesShape.FindStringSubmatch(rest)
	if parts == nil {
		return Plan{}, api.ErrForm
	}
	if p.Begin, err = rule.Parse(parts[1]); err != nil {
		return Plan{}, err
	}
	if parts[2] == "" {
		return Plan{}, api.ErrForm
	}
	if p.End, err = rule.Parse(parts[3]); err != nil {
		return Plan{}, err
	}
	if parts[4] != "" {
		return Plan{}, api.ErrForm
	}
	if p.Ahead > 89999 {
		return Plan{}, api.ErrRange
	}
	return p, nil
}

// parsed holds Parse against the chapter.
func parsed(t *testing.T, s string) {
	t.Helper()
	want, fault := wantParse(s)
	p, err := Parse(s)
	if p != want || err != fault {
		t.Fatalf("Parse of %q: %+v, %v; want %+v, %v", s, p, err, want, fault)
	}
	if err != nil {
		return
	}
	if err := Check(p); err != nil {
		t.Fatalf("Check of %+v, once %q: %v", p, s, err)
	}
	text, err := Put(p)
	if err != nil {
		t.Fatalf("Put of %+v, once %q: %v", p, s, err)
	}
	if again, err := Parse(text); again != p || err != nil {
		t.Fatalf("Parse of %q, once %q: %+v, %v; want %+v", text, s, again, err, p)
	}
}

// checked holds Check and Put against the chapter, and Parse against Put.
func checked(t *testing.T, p Plan) {
	t.Helper()
	want, fault := wantPut(p)
	if err := Check(p); err != fault {
		t.Fatalf("Check of %+v: %v; want %v", p, err, fault)
	}
	s, err := Put(p)
	if s != want || err != fault {
		t.Fatalf("Put of %+v: %q, %v; want %q, %v", p, s, err, want, fault)
	}
	if err != nil {
		return
	}
	if back, err := Parse(s); back != p || err != nil {
		t.Fatalf("Parse of %q: %+v, %v; want %+v", s, back, err, p)
	}
}

// P17.1: a name has 3 to 16 bytes, each a letter, a digit, a plus or a minus.
func TestName(t *testing.T) {
	for n := range 40 {
		if got, want := Name(strings.Repeat("a", n)), n >= 3 && n <= 16; got != want {
			t.Error(n, got)
		}
	}
	for b := range 256 {
		c := string([]byte{byte(b)})
		want := strings.Contains("ABCDEFGHIJKLMNOPQRSTUVWXYZabcdefghijklmnopqrstuvwxyz0123456789+-", c)
		for _, s := range []string{c + "AB", "A" + c + "B", "AB" + c, c + c + c, "ABCDEFGHIJKLMNO" + c} {
			if got := Name(s); got != want {
				t.Errorf("Name of %q: %v", s, got)
			}
			checked(t, Plan{Name: s})
			checked(t, Plan{Name: "ABC", Summer: s, Begin: rule.Rule{Kind: 2}, End: rule.Rule{Kind: 2, Day: 9}})
		}
		if Name(c) || Name(c+c) || Name("ABCDEFGHIJKLMNOP"+c) {
			t.Errorf("Name of %q and so on", c)
		}
	}
	for s, want := range map[string]bool{"": false, "-03": true, "+++": true, "000": true, "ab": false, "a_b": false, "<ab>": false, "abc\x00": false, "\u00e9\u00e9": false, strings.Repeat("A", 1<<20): false} {
		if got := Name(s); got != want {
			t.Errorf("Name of %.20q: %v", s, got)
		}
	}
}

// P17.1: which plans there are, and which error is told where there is more than one.
func TestCheck(t *testing.T) {
	names := []string{"EST", "-03", "", "ES", "E T", "ABCDEFGHIJKLMNOP", "ABCDEFGHIJKLMNOPQ"}
	offsets := []int{0, 1, -18000, 86399, 86400, 89999, 90000, -89999, -90000, 1 << 32, math.MaxInt, math.MaxInt - 3599, math.MinInt, math.MinInt + 1}
	rules := []rule.Rule{{}, {Kind: 2}, {Kind: 3, Month: 3, Week: 2, Time: 7200}, {Time: 1}, {Day: 1}, {Month: 1}, {Week: 1}, {Kind: 4}, {Kind: 1}, {Kind: 2, Time: 604800}, {Kind: 3, Month: 13, Week: 1}}
	for _, name := range names {
		for _, summer := range names {
			for _, offset := range offsets {
				for _, ahead := range offsets {
					for _, begin := range rules {
						for _, end := range rules {
							checked(t, Plan{name, summer, offset, ahead, begin, end})
						}
					}
				}
			}
		}
	}
}

// P17.1: the errors of plans, by hand.
func TestCheckByHand(t *testing.T) {
	good := rule.Rule{Kind: 2}
	for i, c := range []struct {
		p    Plan
		want error
	}{
		{Plan{Name: "UTC"}, nil},
		{Plan{Name: "UTC", Offset: 89999}, nil},
		{Plan{Name: "UTC", Offset: -89999}, nil},
		{Plan{Name: "UTC", Summer: "UTC", Begin: good, End: good}, nil},
		{Plan{}, api.ErrForm},
		{Plan{Summer: "UTC", Begin: good, End: good}, api.ErrForm},
		{Plan{Name: "UT"}, api.ErrForm},
		{Plan{Name: "UTC", Summer: "UT", Begin: good, End: good}, api.ErrForm},
		{Plan{Name: "UTC", Ahead: 3600}, api.ErrForm},
		{Plan{Name: "UTC", Ahead: -1}, api.ErrForm},
		{Plan{Name: "UTC", Begin: good}, api.ErrForm},
		{Plan{Name: "UTC", End: good}, api.ErrForm},
		{Plan{Name: "UTC", Offset: 90000, End: good}, api.ErrForm}, // the form before the offsets
		{Plan{Name: "UTC", Offset: 90000, Ahead: 1}, api.ErrForm},
		{Plan{Name: "UTC", Summer: "UT", Offset: 90000}, api.ErrForm},
		{Plan{Name: "UTC", Offset: 90000}, api.ErrRange},
		{Plan{Name: "UTC", Offset: -90000}, api.ErrRange},
		{Plan{Name: "UTC", Summer: "UTD", Ahead: 90000}, api.ErrRange}, // the offsets before the rules
		{Plan{Name: "UTC", Summer: "UTD", Ahead: -90000}, api.ErrRange},
		{Plan{Name: "UTC", Summer: "UTD"}, api.ErrKind},
		{Plan{Name: "UTC", Summer: "UTD", Begin: good}, api.ErrKind},
		{Plan{Name: "UTC", Summer: "UTD", End: good}, api.ErrKind},
		{Plan{Name: "UTC", Summer: "UTD", Begin: good, End: rule.Rule{Kind: 1}}, api.ErrRange},
		{Plan{Name: "UTC", Summer: "UTD", Begin: rule.Rule{Kind: 1}, End: rule.Rule{Kind: 4}}, api.ErrRange}, // the first rule before the second
		{Plan{Name: "UTC", Summer: "UTD", Begin: rule.Rule{Kind: 4}, End: rule.Rule{Kind: 1}}, api.ErrKind},
	} {
		if err := Check(c.p); err != c.want {
			t.Error(i, c.p, err, c.want)
		}
		if err := wantCheck(c.p); err != c.want {
			t.Error("the measure:", i, c.p, err, c.want)
		}
	}
}

// P17.1: whether there is another time depends on its name alone.
func TestChanges(t *testing.T) {
	some := rule.Rule{Kind: 1, Day: 1}
	for _, p := range []Plan{{}, {Name: "UTC"}, {Name: "UTC", Offset: 3600, Ahead: 7200}, {Begin: some, End: some}} {
		if Changes(p) {
			t.Error(p)
		}
		for _, s := range []string{"UTD", "x", " ", "<>"} {
			p.Summer = s
			if !Changes(p) {
				t.Error(p)
			}
		}
	}
}

// P17.1: a plan without another time, or the error of Check.
func TestFixed(t *testing.T) {
	for _, name := range []string{"UTC", "-03", "+0530", "", "UT", "U C", "ABCDEFGHIJKLMNOP", "ABCDEFGHIJKLMNOPQ"} {
		for _, offset := range []int{0, 1, -1, 19800, 89999, 90000, -89999, -90000, 1 << 32, math.MinInt, math.MaxInt} {
			want := Plan{Name: name, Offset: offset}
			fault := wantCheck(want)
			if fault != nil {
				want = Plan{}
			}
			if p, err := Fixed(name, offset); p != want || err != fault {
				t.Errorf("Fixed of %q, %d: %+v, %v; want %+v, %v", name, offset, p, err, want, fault)
			}
		}
	}
}

// P17.1, P17.2: every offset has its text, which is read as it; the usual one isn't told.
func TestOffsets(t *testing.T) {
	march, november := rule.Rule{Kind: 3, Month: 3, Week: 2, Time: 7200}, rule.Rule{Kind: 3, Month: 11, Week: 1, Time: 7200}
	for offset := -90002; offset <= 90002; offset++ {
		checked(t, Plan{Name: "EST", Offset: offset})
		if offset%3 != 0 && offset > -86300 && offset < 86300 {
			continue
		}
		for _, ahead := range []int{offset + 3599, offset + 3600, offset + 3601, offset - 3600, offset, -offset} {
			checked(t, Plan{"EST", "EDT", offset, ahead, march, november})
		}
	}
}

// P17.1, P17.2: each plan has its text, which is read as it.
func TestThereAndBack(t *testing.T) {
	r := random(17)
	for range 100000 {
		checked(t, r.plan())
	}
}

// P17.1: what is accepted as a plan's text, and what is written, by hand.
func TestTexts(t *testing.T) {
	march, november := rule.Rule{Kind: 3, Month: 3, Week: 2, Time: 7200}, rule.Rule{Kind: 3, Month: 11, Week: 1, Time: 7200}
	first, last := rule.Rule{Kind: 2}, rule.Rule{Kind: 1, Day: 365, Time: 82800}
	for _, c := range []struct {
		s    string
		want Plan
		text string
	}{
		{"EST5EDT,M3.2.0,M11.1.0", Plan{"EST", "EDT", -18000, -14400, march, november}, "EST5EDT,M3.2.0,M11.1.0"}, // the chapter's example
		{"EST+5EDT+4,M03.2.0/2,M11.1.0/+02:00", Plan{"EST", "EDT", -18000, -14400, march, november}, "EST5EDT,M3.2.0,M11.1.0"},
		{"EST5EDT5,M3.2.0,M11.1.0", Plan{"EST", "EDT", -18000, -18000, march, november}, "EST5EDT5,M3.2.0,M11.1.0"},
		{"EST5EDT-5,M3.2.0,M11.1.0", Plan{"EST", "EDT", -18000, 18000, march, november}, "EST5EDT-5,M3.2.0,M11.1.0"},
		{"EST5EST,M3.2.0,M11.1.0", Plan{"EST", "EST", -18000, -14400, march, november}, "EST5EST,M3.2.0,M11.1.0"},
		{"UTC0", Plan{Name: "UTC"}, "UTC0"},
		{"UTC-0", Plan{Name: "UTC"}, "UTC0"},
		{"utc+00:00:00", Plan{Name: "utc"}, "utc0"},
		{"<UTC>0", Plan{Name: "UTC"}, "UTC0"},
		{"<000>000", Plan{Name: "000"}, "<000>0"},
		{"<+++>-1", Plan{Name: "+++", Offset: 3600}, "<+++>-1"},
		{"<A-B>1", Plan{Name: "A-B", Offset: -3600}, "<A-B>1"},
		{"<ABCDEFGHIJKLMNO1>-24:59:59", Plan{Name: "ABCDEFGHIJKLMNO1", Offset: 89999}, "<ABCDEFGHIJKLMNO1>-24:59:59"},
		{"ABCDEFGHIJKLMNOP24:59:59", Plan{Name: "ABCDEFGHIJKLMNOP", Offset: -89999}, "ABCDEFGHIJKLMNOP24:59:59"},
		{"XXX-23:59:59YYY,0/0,J365/23", Plan{"XXX", "YYY", 86399, 89999, rule.Rule{Kind: 2}, last}, "XXX-23:59:59YYY,0/0,J365/23"},
		{"XXX-24YYY24:59:59,0/0,J365/23", Plan{"XXX", "YYY", 86400, -89999, first, last}, "XXX-24YYY24:59:59,0/0,J365/23"},
		{"XXX0<YYY>-1,0/0,J365/23", Plan{"XXX", "YYY", 0, 3600, first, last}, "XXX0YYY,0/0,J365/23"},
		{"XXX0<-01>1,0/0,J365/23", Plan{"XXX", "-01", 0, -3600, first, last}, "XXX0<-01>1,0/0,J365/23"},
		{"<+0530>-5:30<+0630>,0/-167:59:59,365/167:59:59", Plan{"+0530", "+0630", 19800, 23400, rule.Rule{Kind: 2, Time: -604799}, rule.Rule{Kind: 2, Day: 365, Time: 604799}}, "<+0530>-5:30<+0630>,0/-167:59:59,365/167:59:59"},
	} {
		if p, err := Parse(c.s); p != c.want || err != nil {
			t.Errorf("Parse of %q: %+v, %v; want %+v", c.s, p, err, c.want)
		}
		if p, err := wantParse(c.s); p != c.want || err != nil {
			t.Errorf("the measure of %q: %+v, %v; want %+v", c.s, p, err, c.want)
		}
		if s, err := Put(c.want); s != c.text || err != nil {
			t.Errorf("Put of %+v: %q, %v; want %q", c.want, s, err, c.text)
		}
	}
}

// P17.1: what isn't accepted as a plan's text, and which error is the first from the left, by hand.
func TestFaults(t *testing.T) {
	for _, c := range []struct {
		s   string
		err error
	}{
		{"", api.ErrForm},
		{"5", api.ErrForm},
		{"EST", api.ErrForm},
		{"EST ", api.ErrForm},
		{"ES5", api.ErrForm},
		{"ES25", api.ErrForm}, // the name is more to the left
		{"ABCDEFGHIJKLMNOPQ5", api.ErrForm},
		{"<ABCDEFGHIJKLMNOPQ>5", api.ErrForm},
		{"<>5", api.ErrForm},
		{"<ES>5", api.ErrForm},
		{"<ES>25", api.ErrForm},
		{"<EST", api.ErrForm},
		{"<EST5", api.ErrForm},
		{"<EST>", api.ErrForm},
		{"<<EST>>5", api.ErrForm},
		{"<E T>5", api.ErrForm},
		{"<E_T>5", api.ErrForm},
		{">EST<5", api.ErrForm},
		{"E<ST>5", api.ErrForm},
		{"EST<5>", api.ErrForm},
		{":EST5", api.ErrForm},
		{" EST5", api.ErrForm},
		{"EST 5", api.ErrForm},
		{"EST5 ", api.ErrForm},
		{"EST5\n", api.ErrForm},
		{"EST5\x00", api.ErrForm},
		{"EST+", api.ErrForm},
		{"EST+-5", api.ErrForm},
		{"EST0005", api.ErrForm},
		{"EST0025", api.ErrForm},
		{"EST5:", api.ErrForm},
		{"EST5:0", api.ErrForm},
		{"EST5-5", api.ErrForm},
		{"EST5+5", api.ErrForm},
		{"EST25:0", api.ErrForm}, // a clock time's form before its numbers, as in the layer below
		{"EST25", api.ErrRange},
		{"EST-25", api.ErrRange},
		{"EST167", api.ErrRange},
		{"EST5:60", api.ErrRange},
		{"EST5:00:60", api.ErrRange},
		{"EST25 ", api.ErrRange}, // what follows is more to the right
		{"EST25ED5", api.ErrRange},
		{"EST25EDT,x,y", api.ErrRange},
		{"EST5,M3.2.0,M11.1.0", api.ErrForm},
		{"EST5,", api.ErrForm},
		{"EST5EDT", api.ErrForm},
		{"EST5EDT4", api.ErrForm},
		{"EST5EDT25", api.ErrRange},
		{"EST5EDT25,x", api.ErrRange},
		{"EST5ED,M3.2.0,M11.1.0", api.ErrForm},
		{"EST5ED25,M3.2.0,M11.1.0", api.ErrForm},
		{"EST5<EDT,M3.2.0,M11.1.0", api.ErrForm},
		{"EST5EDT M3.2.0,M11.1.0", api.ErrForm},
		{"EST5EDT4 ,M3.2.0,M11.1.0", api.ErrForm},
		{"EST5EDT+,M3.2.0,M11.1.0", api.ErrForm},
		{"EST5EDTM3.2.0,M11.1.0", api.ErrForm},
		{"EST5EDT/4,M3.2.0,M11.1.0", api.ErrForm},
		{"EST5EDT,", api.ErrForm},
		{"EST5EDT,,", api.ErrForm},
		{"EST5EDT,M3.2.0", api.ErrForm},
		{"EST5EDT,M13.2.0", api.ErrRange}, // the rule is more to the left than what is missing
		{"EST5EDT,M3.2.0,", api.ErrForm},
		{"EST5EDT,M3.2.0,M13.1.0", api.ErrRange},
		{"EST5EDT,M13.2.0,x", api.ErrRange},
		{"EST5EDT,x,M13.1.0", api.ErrForm},
		{"EST5EDT,M3.2.0/168,M11.1.0", api.ErrRange},
		{"EST5EDT,M3.2.0,M11.1.0,", api.ErrForm},
		{"EST5EDT,M3.2.0,M13.1.0,", api.ErrRange},
		{"EST5EDT,M3.2.0,M11.1.0,M1.1.1", api.ErrForm},
		{"EST5EDT,M3.2.0,M11.1.0 ", api.ErrForm},
		{"EST5EDT, M3.2.0,M11.1.0", api.ErrForm},
		{"EST5EDT,m3.2.0,M11.1.0", api.ErrForm},
		{"EST5EDT;M3.2.0;M11.1.0", api.ErrForm},
		{"EST-24EDT,0,0", api.ErrRange},
		{"EST-24:59:59EDT,0,0", api.ErrRange},
		{"EST-24:59:59EDT,0,x", api.ErrForm}, // an offset that isn't told is out of range after all else
		{"EST-24:59:59EDT,0,0,", api.ErrForm},
		{"EST-24:59:59EDT,0", api.ErrForm},
		{"EST-24:59:59EDT", api.ErrForm},
	} {
		if p, err := Parse(c.s); p != (Plan{}) || err != c.err {
			t.Errorf("Parse of %q: %+v, %v; want %v", c.s, p, err, c.err)
		}
		if p, err := wantParse(c.s); p != (Plan{}) || err != c.err {
			t.Errorf("the measure of %q: %+v, %v; want %v", c.s, p, err, c.err)
		}
	}
}

// near are a text, and all that are one byte away from it.
func near(s string) []string {
	list := []string{s}
	for i := range len(s) + 1 {
		for b := range 256 {
			list = append(list, s[:i]+string([]byte{byte(b)})+s[i:])
			if i < len(s) {
				list = append(list, s[:i]+string([]byte{byte(b)})+s[i+1:])
			}
		}
		list = append(list, s[:i], s[i:], s[:i]+s[min(i+1, len(s)):])
	}
	return list
}

// P17.1, P17.2: whatever is one byte away from a text is read as the chapter says.
func TestNearTexts(t *testing.T) {
	for _, s := range []string{"UTC0", "<-03>3", "EST5EDT,M3.2.0,M11.1.0", "<+1030>-10:30<+11>-11,M10.1.0,M4.1.0", "ABCDEFGHIJKLMNOP-23:59:59<ABCDEFGHIJKLMNO0>,J1/0,365/-1", "IST-1GMT0,M10.5.0,M3.5.0/1"} {
		for _, s := range near(s) {
			parsed(t, s)
		}
	}
}

// P17.1, P17.2: texts of a plan's own pieces are read as the chapter says, whatever their order.
func TestPieces(t *testing.T) {
	r := random(1717)
	names := []string{"EST", "EST", "<-03>", "<EDT>", "<+0530>", "ED", "<ED>", "<E_T>", "EST<", "ABCDEFGHIJKLMNOPQ", ""}
	clocks := []string{"5", "5", "-5", "+5:30", "0", "-24:59:59", "-23:59:59", "24", "25", "5:60", "5:6", "+-1", ":", ""}
	rules := []string{"M3.2.0", "M3.2.0", "0", "J1/-1", "365/167", "M13.1.0", "J0", "1/168", "x", "M3.2", ""}
	commas := []string{",", ",", ",", ",", ",", ",", ",", ",", ";", "", ",,"}
	pick := func(list []string) string {
		return list[r.below(len(list))]
	}
	for range 200000 {
		s := pick(names) + pick(clocks)
		if r.below(8) > 0 {
			s += pick(names)
			if r.below(2) == 0 {
				s += pick(clocks)
			}
			s += pick(commas) + pick(rules) + pick(commas) + pick(rules)
		}
		if r.below(8) == 0 {
			s += pick(commas)
		}
		parsed(t, s)
	}
	all := append(append(append(names, clocks...), rules...), commas...)
	for range 200000 {
		s := ""
		for range 1 + r.below(10) {
			s += pick(all)
		}
		parsed(t, s)
	}
	for _, s := range all {
		parsed(t, strings.Repeat(s, 10000))
		parsed(t, "EST5"+strings.Repeat(s, 10000))
		parsed(t, "EST5EDT,0,"+strings.Repeat(s, 10000))
	}
}

// fileOf is a zone file with one change long ago, and a text for all that follows.
func fileOf(text string) []byte {
	header := func(counts ...uint32) []byte {
		b := append([]byte("TZif2"), make([]byte, 15)...)
		for _, n := range counts {
			b = binary.BigEndian.AppendUint32(b, n)
		}
		return b
	}
	b := header(0, 0, 0, 0, 0, 0)
	b = append(b, header(0, 0, 0, 1, 1, 4)...)
	b = binary.BigEndian.AppendUint64(b, 0)
	b = append(b, 0)                // the change's type
	b = append(b, 0, 0, 0, 0, 0, 0) // the type
	return append(b, "LMT\x00\n"+text+"\n"...)
}

// P17.1: names and offsets are those that the library finds in the text, in January and in July.
func TestLibrary(t *testing.T) {
	march, november := rule.Rule{Kind: 3, Month: 3, Week: 2, Time: 7200}, rule.Rule{Kind: 3, Month: 11, Week: 1, Time: 7200}
	r := random(171717)
	for i := range 20000 {
		p := r.plan()
		south := i%2 == 0
		if Changes(p) {
			p.Begin, p.End = march, november
			if south {
				p.Begin, p.End = november, march
			}
		}
		s, err := Put(p)
		if err != nil {
			t.Fatal(p, err)
		}
		place, err := time.LoadLocationFromTZData(strconv.Itoa(i), fileOf(s))
		if err != nil {
			t.Fatal(p, s, err)
		}
		for _, month := range []time.Month{time.January, time.July} {
			name, offset := time.Date(2024, month, 15, 0, 0, 0, 0, time.UTC).In(place).Zone()
			want, ahead := p.Name, p.Offset
			if Changes(p) && south == (month == time.January) {
				want, ahead = p.Summer, p.Ahead
			}
			if name != want || offset != ahead {
				t.Fatalf("%q in %v: %q, %d; want %q, %d", s, month, name, offset, want, ahead)
			}
		}
	}
}
