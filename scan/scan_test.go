package scan

import (
	"bytes"
	"fmt"
	"math"
	"math/rand/v2"
	"slices"
	"strconv"
	"strings"
	"testing"

	"horologe/api"
	"horologe/figures"
)

type (
	ownText  string
	ownBytes []byte
)

// scanner is what all scanners do, whatever they read, and the model.
type scanner interface {
	At() int
	Left() int
	Peek() (byte, bool)
	Take(b byte) bool
	Fold(word string) bool
	Run(of string) string
	Until(stop byte) string
	Figures(least, most int) int64
	Must(word string)
	Word(list ...string) int
	Skip(many int)
	Fail(err error)
	Err() error
	End() error
}

// scanners are those of a text, as each kind of text.
func scanners(text string) map[string]scanner {
	return map[string]scanner{
		"string":   New(text),
		"bytes":    New([]byte(text)),
		"ownText":  New(ownText(text)),
		"ownBytes": New(ownBytes(text)),
	}
}

// model is a scanner that copies what is left at each step, and looks for it with the library.
type model struct {
	taken, left string
	err         error
}

func (m *model) rest() string {
	if m.err != nil {
		return ""
	}
	return m.left
}

func (m *model) move(many int) string {
	part := m.left[:many]
	m.taken, m.left = m.taken+part, m.left[many:]
	return part
}

func (m *model) At() int { return len(m.taken) }

func (m *model) Left() int { return len(m.rest()) }

func (m *model) Peek() (byte, bool) {
	if m.rest() == "" {
		return 0, false
	}
	return m.left[0], true
}

func (m *model) Take(b byte) bool {
	if !strings.HasPrefix(m.rest(), string([]byte{b})) {
		return false
	}
	m.move(1)
	return true
}

func (m *model) Fold(word string) bool {
	if m.err != nil || !strings.HasPrefix(small(m.left), small(word)) {
		return false
	}
	m.move(len(word))
	return true
}

func (m *model) Run(of string) string {
	many := 0
	for many < m.Left() && strings.Contains(of, m.left[many:many+1]) {
		many++
	}
	return m.move(many)
}

func (m *model) Until(stop byte) string {
	part, _, _ := strings.Cut(m.rest(), string([]byte{stop}))
	return m.move(len(part))
}

func (m *model) Figures(least, most int) int64 {
	if m.err != nil {
		return 0
	}
	n, many, err := figures.Take(m.left, least, most)
	m.err = err
	m.move(many)
	return n
}

func (m *model) Must(word string) { m.Word(word) }

func (m *model) Word(list ...string) int {
	k := slices.IndexFunc(list, m.Fold)
	if k < 0 {
		m.Fail(api.ErrForm)
	}
	return k
}

func (m *model) Skip(many int) {
	if many < 0 {
		m.Fail(api.ErrRange)
	}
	if many > m.Left() {
		m.Fail(api.ErrShort)
	}
	if m.err == nil {
		m.move(many)
	}
}

func (m *model) Fail(err error) {
	if m.err == nil {
		m.err = err
	}
}

func (m *model) Err() error { return m.err }

func (m *model) End() error {
	if m.err == nil && m.left != "" {
		return api.ErrForm
	}
	return m.err
}

const (
	bigLetters   = "ABCDEFGHIJKLMNOPQRSTUVWXYZ"
	smallLetters = "abcdefghijklmnopqrstuvwxyz"
)

// small is a text with all letters small, and all other bytes as they are.
func small(text string) string {
	out := []byte(text)
	for i, b := range out {
		if k := strings.IndexByte(bigLetters, b); k >= 0 {
			out[i] = smallLetters[k]
		}
	}
	return string(out)
}

// state is all that can be asked of a scanner without a change.
func state(s scanner) string {
	next, there := s.Peek()
	return fmt.Sprint("at ", s.At(), ", left ", s.Left(), ", next ", next, " ", there, ", error ", s.Err(), ", end ", s.End())
}

// P4.1: the example of the chapter.
func TestExample(t *testing.T) {
	for kind, s := range scanners("12:05") {
		if n := s.Figures(1, 2); n != 12 {
			t.Errorf("%s: first number: %d", kind, n)
		}
		if !s.Take(':') {
			t.Errorf("%s: no colon", kind)
		}
		if n := s.Figures(2, 2); n != 5 {
			t.Errorf("%s: second number: %d", kind, n)
		}
		if err := s.End(); err != nil {
			t.Errorf("%s: %v", kind, err)
		}
	}
}

// P4.1
func TestNew(t *testing.T) {
	for kind, s := range scanners("ab") {
		if got := state(s); got != "at 0, left 2, next 97 true, error <nil>, end form" {
			t.Errorf("%s: %s", kind, got)
		}
	}
	for kind, s := range scanners("") {
		if got := state(s); got != "at 0, left 0, next 0 false, error <nil>, end <nil>" {
			t.Errorf("%s: %s", kind, got)
		}
	}
	if got := state(New([]byte(nil))); got != "at 0, left 0, next 0 false, error <nil>, end <nil>" {
		t.Errorf("nil: %s", got)
	}
}

// P4.1: of all pairs of bytes, only equal ones and the same letter in different cases match; and Take knows equal ones alone.
func TestEachPairOfBytes(t *testing.T) {
	for a := range 256 {
		text := string([]byte{byte(a)})
		for b := range 256 {
			word := string([]byte{byte(b)})
			k := strings.IndexByte(bigLetters, byte(a))
			l := strings.IndexByte(smallLetters, byte(b))
			m := strings.IndexByte(smallLetters, byte(a))
			n := strings.IndexByte(bigLetters, byte(b))
			want := a == b || k >= 0 && k == l || m >= 0 && m == n
			if s := New(text); s.Fold(word) != want || (s.Left() == 0) != want {
				t.Errorf("Fold of %q at %q isn't %t", word, text, want)
			}
			if s := New([]byte(text)); s.Take(byte(b)) != (a == b) || (s.Left() == 0) != (a == b) {
				t.Errorf("Take of %q at %q isn't %t", word, text, a == b)
			}
			if s := New(text); (s.Run(word) == text) != (a == b) {
				t.Errorf("Run of %q at %q isn't %t", word, text, a == b)
			}
			if s := New([]byte(text)); (s.Until(byte(b)) == text) != (a != b) {
				t.Errorf("Until %q at %q isn't %t", word, text, a != b)
			}
		}
	}
}

// P4.1
func TestFold(t *testing.T) {
	for _, c := range []struct {
		text, word string
		want       bool
	}{
		{"Monday", "mon", true},
		{"Monday", "MONDAY", true},
		{"Monday", "Monday ", false},
		{"Monday", "onday", false},
		{"Monday", "mom", false},
		{"Monday", "", true},
		{"", "", true},
		{"", "a", false},
		{"a", "aa", false},
		{"[", "{", false},
		{"@", "`", false},
		{"\u212a", "k", false}, // the Kelvin sign is the same letter elsewhere
		{"\u017f", "s", false},
		{"\u00c4", "\u00e4", false},
		{"\u00c4b", "\u00c4B", true},
		{"\x00\xff", "\x00\xff", true},
		{"\xff", "\xfe", false},
	} {
		for kind, s := range scanners(c.text) {
			got := s.Fold(c.word)
			at := 0
			if c.want {
				at = len(c.word)
			}
			if got != c.want || s.At() != at || s.Err() != nil {
				t.Errorf("%s: Fold(%q) of %q: %t at %d, %v", kind, c.word, c.text, got, s.At(), s.Err())
			}
		}
	}
}

// P4.1
func TestRunAndUntil(t *testing.T) {
	for _, c := range []struct {
		text, of, run string
		stop          byte
		until         string
	}{
		{"aabbc", "ab", "aabb", 'b', "aa"},
		{"aabbc", "ba", "aabb", 'c', "aabb"},
		{"aabbc", "c", "", 'a', ""},
		{"aabbc", "", "", 'x', "aabbc"},
		{"aabbc", "abc", "aabbc", 'C', "aabbc"},
		{"aAbB", "ab", "a", 'B', "aAb"},
		{"", "abc", "", 0, ""},
		{"\x00\xff\x00a", "\xff\x00", "\x00\xff\x00", 0xff, "\x00"},
		{"\u00e4\u00f6", "\u00f6", "\xc3", 0xb6, "\u00e4\xc3"}, // bytes, not characters
		{"\ufffd", "\xff", "", 0xff, "\ufffd"},
	} {
		for kind, s := range scanners(c.text) {
			if got := s.Run(c.of); got != c.run || s.At() != len(got) || s.Err() != nil {
				t.Errorf("%s: Run(%q) of %q: %q at %d, %v", kind, c.of, c.text, got, s.At(), s.Err())
			}
		}
		for kind, s := range scanners(c.text) {
			if got := s.Until(c.stop); got != c.until || s.At() != len(got) || s.Err() != nil {
				t.Errorf("%s: Until(%q) of %q: %q at %d, %v", kind, c.stop, c.text, got, s.At(), s.Err())
			}
		}
	}
}

// P4.1
func TestFigures(t *testing.T) {
	for _, c := range []struct {
		text        string
		least, most int
		want        int64
		at          int
		err         error
	}{
		{"12:05", 1, 2, 12, 2, nil},
		{"12:05", 1, 1, 1, 1, nil},
		{"12:05", 2, 20, 12, 2, nil},
		{"12:05", 3, 3, 0, 0, api.ErrForm},
		{"0012", 1, 20, 12, 4, nil},
		{"", 1, 1, 0, 0, api.ErrForm},
		{"-1", 1, 2, 0, 0, api.ErrForm},
		{"9223372036854775807", 1, 20, math.MaxInt64, 19, nil},
		{"9223372036854775808", 1, 20, 0, 0, api.ErrOver},
		{"9223372036854775808", 1, 18, 922337203685477580, 18, nil},
		{"99999999999999999999", 20, 20, 0, 0, api.ErrOver},
		{"000000000000000000007", 20, 20, 0, 20, nil},
		{"12", 0, 2, 0, 0, api.ErrRange},
		{"12", 2, 1, 0, 0, api.ErrRange},
		{"12", 1, 21, 0, 0, api.ErrRange},
		{"12", -1, -1, 0, 0, api.ErrRange},
		{"12", 1, math.MinInt, 0, 0, api.ErrRange},
		{"12", 1, math.MaxInt, 0, 0, api.ErrRange},
		{"12", math.MaxInt, math.MaxInt, 0, 0, api.ErrRange},
		{"12", math.MinInt, 1, 0, 0, api.ErrRange},
	} {
		for kind, s := range scanners("x" + c.text) {
			s.Skip(1)
			if n := s.Figures(c.least, c.most); n != c.want || s.At() != 1+c.at || s.Err() != c.err {
				t.Errorf("%s: Figures(%d, %d) of %q: %d at %d, %v", kind, c.least, c.most, c.text, n, s.At(), s.Err())
			}
		}
	}
}

// P4.1
func TestMustAndWord(t *testing.T) {
	for _, c := range []struct {
		text string
		list []string
		want int
		at   int
	}{
		{"Monday", []string{"tue", "MON", "mon"}, 1, 3},
		{"Monday", []string{"mo", "monday"}, 0, 2}, // the first, not the longest
		{"Monday", []string{"mondays", "x", "Monday"}, 2, 6},
		{"Monday", []string{"x", "", "Monday"}, 1, 0},
		{"Monday", []string{"x", "y"}, -1, 0},
		{"Monday", nil, -1, 0},
		{"", []string{""}, 0, 0},
		{"", []string{"a"}, -1, 0},
	} {
		var wantErr error
		if c.want < 0 {
			wantErr = api.ErrForm
		}
		for kind, s := range scanners(c.text) {
			if k := s.Word(c.list...); k != c.want || s.At() != c.at || s.Err() != wantErr {
				t.Errorf("%s: Word(%q) of %q: %d at %d, %v", kind, c.list, c.text, k, s.At(), s.Err())
			}
		}
		for kind, s := range scanners(c.text) {
			if c.want >= 0 {
				s.Must(c.list[c.want])
				if s.At() != c.at || s.Err() != nil {
					t.Errorf("%s: Must(%q) of %q: at %d, %v", kind, c.list[c.want], c.text, s.At(), s.Err())
				}
			} else if len(c.list) > 0 {
				s.Must(c.list[0])
				if s.At() != 0 || s.Err() != api.ErrForm {
					t.Errorf("%s: Must(%q) of %q: at %d, %v", kind, c.list[0], c.text, s.At(), s.Err())
				}
			}
		}
	}
}

// P4.1
func TestSkip(t *testing.T) {
	for _, c := range []struct {
		many, at int
		err      error
	}{
		{0, 1, nil},
		{1, 2, nil},
		{3, 4, nil},
		{4, 1, api.ErrShort},
		{5, 1, api.ErrShort},
		{math.MaxInt, 1, api.ErrShort}, // the end wraps around
		{-1, 1, api.ErrRange},
		{math.MinInt, 1, api.ErrRange},
	} {
		for kind, s := range scanners("abcd") {
			s.Take('a')
			if s.Skip(c.many); s.At() != c.at || s.Err() != c.err {
				t.Errorf("%s: Skip(%d): at %d, %v", kind, c.many, s.At(), s.Err())
			}
		}
	}
}

// wrapped is an error that isn't one of api's.
type wrapped struct{ list []int }

func (w wrapped) Error() string { return fmt.Sprint(w.list) }

// P4.1
func TestFailErrAndEnd(t *testing.T) {
	for kind, s := range scanners("ab") {
		s.Fail(nil)
		if s.Err() != nil || s.End() != api.ErrForm || !s.Take('a') {
			t.Errorf("%s: after no error: %v, %v", kind, s.Err(), s.End())
		}
		s.Take('b')
		if s.End() != nil {
			t.Errorf("%s: end: %v", kind, s.End())
		}
		s.Fail(api.ErrKind)
		s.Fail(api.ErrLeap)
		s.Fail(nil)
		if s.Err() != api.ErrKind || s.End() != api.ErrKind {
			t.Errorf("%s: after errors: %v, %v", kind, s.Err(), s.End())
		}
	}
	s := New("ab") // End tells an error, but sets none
	if err := s.End(); err != api.ErrForm || s.Err() != nil || s.Left() != 2 {
		t.Errorf("end: %v, then %v", err, s.Err())
	}
	s.Fail(wrapped{[]int{1, 2}}) // no two of its kind can be compared
	s.Fail(wrapped{[]int{3}})
	if s.Err().Error() != "[1 2]" || s.End().Error() != "[1 2]" {
		t.Errorf("an error of another kind: %v, %v", s.Err(), s.End())
	}
}

// P4.1: while there is an error, each call returns what stands for nothing, and changes nothing.
func TestErrorStays(t *testing.T) {
	for kind, s := range scanners("ab 12") {
		s.Take('a')
		s.Fail(api.ErrDrop)
		for name, call := range map[string]func() bool{
			"Take":            func() bool { return !s.Take('b') },
			"Fold":            func() bool { return !s.Fold("b") },
			"Fold of nothing": func() bool { return !s.Fold("") },
			"Run":             func() bool { return s.Run("ab") == "" },
			"Until":           func() bool { return s.Until('x') == "" },
			"Figures":         func() bool { return s.Figures(1, 2) == 0 },
			"wrong Figures":   func() bool { return s.Figures(2, 1) == 0 },
			"Word":            func() bool { return s.Word("", "b") == -1 },
			"Word of none":    func() bool { return s.Word() == -1 },
			"Must":            func() bool { s.Must("b"); return true },
			"wrong Must":      func() bool { s.Must("x"); return true },
			"Skip":            func() bool { s.Skip(1); return true },
			"short Skip":      func() bool { s.Skip(9); return true },
			"wrong Skip":      func() bool { s.Skip(-1); return true },
			"Fail":            func() bool { s.Fail(api.ErrForm); return true },
		} {
			if !call() || state(s) != "at 1, left 0, next 0 false, error drop, end drop" {
				t.Errorf("%s: %s while there is an error: %s", kind, name, state(s))
			}
		}
	}
}

// P4.1
func TestNil(t *testing.T) {
	var text *Scanner[string]
	var list *Scanner[[]byte]
	for kind, s := range map[string]scanner{"string": text, "bytes": list} {
		for range 2 { // once more, after all calls
			if got := state(s); got != "at 0, left 0, next 0 false, error none, end none" {
				t.Errorf("%s: %s", kind, got)
			}
			if s.Take(0) || s.Fold("") || s.Fold("a") || s.Run("a") != "" || s.Until('a') != "" {
				t.Errorf("%s: something is taken", kind)
			}
			if s.Figures(1, 2) != 0 || s.Figures(2, 1) != 0 || s.Word() != -1 || s.Word("") != -1 {
				t.Errorf("%s: a number or a word is taken", kind)
			}
			s.Must("")
			s.Must("a")
			s.Skip(0)
			s.Skip(1)
			s.Skip(-1)
			s.Fail(api.ErrForm)
			s.Fail(nil)
		}
	}
}

// P4.1: the text stays as it is, with its spare capacity; and as the bytes aren't kept, what becomes of them isn't read.
func TestMemoryIsNew(t *testing.T) {
	whole := []byte("ab=12;cd|spare")
	kept := bytes.Clone(whole)
	b := whole[:8]
	s := New(b)
	run, until := s.Run("ab"), s.Until('1')
	if n := s.Figures(1, 20); n != 12 {
		t.Errorf("number: %d", n)
	}
	if !bytes.Equal(whole, kept) {
		t.Errorf("the bytes are changed: %q", whole)
	}
	for i := range whole {
		whole[i] = '9'
	}
	if run != "ab" || until != "=" {
		t.Errorf("results share the bytes' memory: %q, %q", run, until)
	}
	if next, there := s.Peek(); next != ';' || !there || !s.Fold(";CD") || s.End() != nil {
		t.Errorf("the bytes are kept: %q", next)
	}
}

const kinds = "aAbZz@[`{ 019:\x00\xff"

// randomText is a text of up to so many bytes of a few kinds.
func randomText(r *rand.Rand, most int) string {
	out := make([]byte, r.IntN(most+1))
	for i := range out {
		out[i] = kinds[r.IntN(len(kinds))]
	}
	return string(out)
}

// randomCall is a call with random arguments, which tells its result.
func randomCall(r *rand.Rand) (string, func(s scanner) any) {
	word, b, many := randomText(r, 3), kinds[r.IntN(len(kinds))], r.IntN(5)-1
	least, most := r.IntN(4), r.IntN(25)
	list := []string{randomText(r, 2) + "x", randomText(r, 3), randomText(r, 2)}[:r.IntN(4)]
	switch r.IntN(12) {
	case 0, 1:
		return fmt.Sprintf("Take(%q)", b), func(s scanner) any { return s.Take(b) }
	case 2, 3:
		return fmt.Sprintf("Fold(%q)", word), func(s scanner) any { return s.Fold(word) }
	case 4, 5:
		return fmt.Sprintf("Run(%q)", word), func(s scanner) any { return s.Run(word) }
	case 6:
		return fmt.Sprintf("Until(%q)", b), func(s scanner) any { return s.Until(b) }
	case 7:
		return fmt.Sprintf("Figures(%d, %d)", least, most), func(s scanner) any { return s.Figures(least, most) }
	case 8:
		return fmt.Sprintf("Must(%q)", word), func(s scanner) any { s.Must(word); return nil }
	case 9:
		return fmt.Sprintf("Word(%q)", list), func(s scanner) any { return s.Word(list...) }
	case 10:
		return fmt.Sprintf("Skip(%d)", many), func(s scanner) any { s.Skip(many); return nil }
	}
	return "Fail", func(s scanner) any {
		if many == 0 {
			s.Fail(api.ErrKind)
		}
		return nil
	}
}

// P4.1: any calls in any order do what the model does, for each kind of text.
func TestAnyOrder(t *testing.T) {
	r := rand.New(rand.NewPCG(4, 1))
	for range 20000 {
		text := randomText(r, 30)
		want := &model{left: text}
		all := scanners(text)
		var calls []string
		for range 12 {
			name, call := randomCall(r)
			calls = append(calls, name)
			result := call(want)
			for kind, s := range all {
				if got := call(s); got != result || state(s) != state(want) {
					t.Fatalf("%s: %q, %v: %v, %s; want %v, %s", kind, text, calls, got, state(s), result, state(want))
				}
			}
		}
	}
}

// P4.2: what was taken and what is left make up the text, and the offset never decreases.
func TestNothingIsLost(t *testing.T) {
	r := rand.New(rand.NewPCG(4, 2))
	for range 20000 {
		text := randomText(r, 30)
		for kind, s := range scanners(text) {
			for range 12 {
				before := s.At()
				name, call := randomCall(r)
				result := call(s)
				if s.At() < before || s.At() > len(text) {
					t.Fatalf("%s: %q, %s: from %d to %d", kind, text, name, before, s.At())
				}
				part := text[before:s.At()]
				if !told(name, result, part) {
					t.Fatalf("%s: %q, %s: %v is told, %q is taken", kind, text, name, result, part)
				}
				if s.Err() == nil && s.Left() != len(text)-s.At() {
					t.Fatalf("%s: %q, %s: %d left at %d", kind, text, name, s.Left(), s.At())
				}
			}
			at := s.At()
			if s.Err() == nil && (s.Run(text) != text[at:] || s.Left() != 0) {
				t.Fatalf("%s: %q: not all is taken from %d on", kind, text, at)
			}
		}
	}
}

// told tells whether a call's result goes with the bytes that it took.
func told(name string, result any, part string) bool {
	switch x := result.(type) {
	case string:
		return x == part
	case int64:
		n, _ := strconv.ParseInt(part, 10, 64)
		return n == x
	case bool:
		return x == (part != "") || x && name == `Fold("")`
	case int:
		return x >= 0 || part == ""
	}
	return true
}
