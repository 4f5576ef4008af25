package figures

import (
	"fmt"
	"math"
	"math/big"
	"strings"
	"testing"

	"horologe/api"
)

const (
	least = math.MinInt64
	most  = math.MaxInt64
)

// numbers are the powers of 10 and of 2 with their neighbours and their negatives, the ends of the range, and numbers of all sizes, the same in each run.
func numbers() []int64 {
	list := []int64{0, 7, -7, 12345, most, most - 1, least, least + 1}
	for power := int64(1); ; power *= 10 {
		list = append(list, power, power-1, power+1, -power, 1-power, -1-power)
		if power > most/10 {
			break
		}
	}
	state := uint64(0x9e3779b97f4a7c15)
	for shift := range 63 {
		power := int64(1) << shift
		list = append(list, power, power-1, power+1, -power, 1-power, -1-power)
		state ^= state << 13
		state ^= state >> 7
		state ^= state << 17
		list = append(list, int64(state)>>shift)
	}
	return list
}

// texts yields all texts of up to five bytes of a few kinds, and long ones whose numbers lie around the ends of the range.
func texts(yield func(s string) bool) {
	kinds := "019/:+- "
	short := []string{""}
	for at := 0; at < len(short); at++ {
		if !yield(short[at]) {
			return
		}
		if len(short[at]) < 5 {
			for i := range len(kinds) {
				short = append(short, short[at]+kinds[i:i+1])
			}
		}
	}
	for _, digits := range []string{
		"922337203685477580", "9223372036854775806", "9223372036854775807", "9223372036854775808", "9223372036854775809",
		"9223372036854775810", "9300000000000000000", "9999999999999999999", "10000000000000000000",
		"18446744073709551615", "18446744073709551616", "18446744073709551617", "27670116110564327424", "36893488147419103233",
		"92233720368547758070", "92233720368547758080", "99999999999999999999", "100000000000000000000",
		"123456789012345678901234567890", strings.Repeat("0", 40), strings.Repeat("9", 300), "1234567890123456789",
	} {
		for _, sign := range []string{"", "+", "-", "0", "00", "-0", "+0", "--", "+-", " ", "x"} {
			for _, end := range []string{"", "0", "9", "x", " ", "\x00", "\xff", "-", "."} {
				if !yield(sign + digits + end) {
					return
				}
			}
		}
	}
	for b := range 256 {
		one := string([]byte{byte(b)})
		for _, s := range []string{one, "12" + one, one + "12", "1" + one + "2", "-" + one, "+" + one, "-1" + one} {
			if !yield(s) {
				return
			}
		}
	}
}

// bounds are pairs of least and most, right ones and wrong ones.
func bounds(yield func(low, high int) bool) {
	ends := []int{math.MinInt, -1, 0, 1, 2, 3, 4, 9, 18, 19, 20, 21, 22, math.MaxInt}
	for _, low := range ends {
		for _, high := range ends {
			if !yield(low, high) {
				return
			}
		}
	}
}

// wantTake is Take for numbers between two, without bounds in between.
func wantTake(s string, low, high int, negative bool) (*big.Int, int, error) {
	if low < 1 || low > high || high > 20 {
		return nil, 0, api.ErrRange
	}
	many := min(len(s)-len(strings.TrimLeft(s, "0123456789")), high)
	if many < low {
		return nil, 0, api.ErrForm
	}
	n, ok := new(big.Int).SetString(s[:many], 10)
	if !ok {
		panic("no number: " + s)
	}
	if negative {
		n.Neg(n)
	}
	if !n.IsInt64() {
		return nil, 0, api.ErrOver
	}
	return n, many, nil
}

func wantWhole(s string, low, high int, negative bool) (int64, error) {
	n, many, err := wantTake(s, low, high, negative)
	if err != nil {
		return 0, err
	}
	if s[many:] != "" {
		return 0, api.ErrForm
	}
	return n.Int64(), nil
}

func wantSigned(s string, high int) (int64, error) {
	switch {
	case strings.HasPrefix(s, "-"):
		return wantWhole(s[1:], 1, high, true)
	case strings.HasPrefix(s, "+"):
		return wantWhole(s[1:], 1, high, false)
	}
	return wantWhole(s, 1, high, false)
}

// P2.1
func TestPut(t *testing.T) {
	for _, n := range numbers() {
		for width := range 21 {
			want := fmt.Sprintf("%0*d", width, new(big.Int).Abs(big.NewInt(n)))
			if n < 0 {
				want = "-" + want
			}
			if s, err := Put(n, width); s != want || err != nil {
				t.Errorf("Put(%d, %d): %q, %v; want %q", n, width, s, err, want)
			}
		}
	}
}

// P2.1
func TestPutByHand(t *testing.T) {
	for _, c := range []struct {
		n     int64
		width int
		want  string
		err   error
	}{
		{7, 2, "07", nil},
		{0, 0, "0", nil},
		{0, 1, "0", nil},
		{0, 2, "00", nil},
		{0, 20, "00000000000000000000", nil},
		{-7, 0, "-7", nil},
		{-7, 1, "-7", nil},
		{-7, 2, "-07", nil},
		{10, 2, "10", nil},
		{100, 2, "100", nil},
		{-100, 4, "-0100", nil},
		{most, 20, "09223372036854775807", nil},
		{least, 19, "-9223372036854775808", nil},
		{least, 20, "-09223372036854775808", nil},
		{7, -1, "", api.ErrRange},
		{7, 21, "", api.ErrRange},
		{-7, math.MinInt, "", api.ErrRange},
		{-7, math.MaxInt, "", api.ErrRange},
	} {
		if s, err := Put(c.n, c.width); s != c.want || err != c.err {
			t.Errorf("Put(%d, %d): %q, %v; want %q, %v", c.n, c.width, s, err, c.want, c.err)
		}
	}
}

// P2.1
func TestTakeAndWhole(t *testing.T) {
	for s := range texts {
		for low, high := range bounds {
			var want int64
			n, wantMany, wantErr := wantTake(s, low, high, false)
			if wantErr == nil {
				want = n.Int64()
			}
			if n, many, err := Take(s, low, high); n != want || many != wantMany || err != wantErr {
				t.Errorf("Take(%q, %d, %d): %d, %d, %v; want %d, %d, %v", s, low, high, n, many, err, want, wantMany, wantErr)
			}
			want, wantErr = wantWhole(s, low, high, false)
			if n, err := Whole(s, low, high); n != want || err != wantErr {
				t.Errorf("Whole(%q, %d, %d): %d, %v; want %d, %v", s, low, high, n, err, want, wantErr)
			}
		}
	}
}

// P2.1
func TestTakeByHand(t *testing.T) {
	for _, c := range []struct {
		s         string
		low, high int
		n         int64
		many      int
		err       error
	}{
		{"12x", 1, 4, 12, 2, nil},
		{"12x", 2, 2, 12, 2, nil},
		{"12x", 3, 4, 0, 0, api.ErrForm},
		{"0012", 1, 3, 1, 3, nil},
		{"0", 1, 1, 0, 1, nil},
		{"12345", 1, 4, 1234, 4, nil},
		{"x12", 1, 4, 0, 0, api.ErrForm},
		{"-12", 1, 4, 0, 0, api.ErrForm},
		{"+12", 1, 4, 0, 0, api.ErrForm},
		{" 12", 1, 4, 0, 0, api.ErrForm},
		{"", 1, 4, 0, 0, api.ErrForm},
		{"\xd9\xa1", 1, 4, 0, 0, api.ErrForm}, // a digit, but not of ASCII
		{"9223372036854775807", 19, 20, most, 19, nil},
		{"09223372036854775807", 20, 20, most, 20, nil},
		{"9223372036854775808", 1, 18, 922337203685477580, 18, nil},
		{"9223372036854775808", 1, 19, 0, 0, api.ErrOver},
		{"9223372036854775808", 20, 20, 0, 0, api.ErrForm}, // too short as well as too great
		{"18446744073709551617", 1, 20, 0, 0, api.ErrOver}, // 2^64 + 1
		{"99999999999999999999", 1, 20, 0, 0, api.ErrOver},
		{"1", 0, 4, 0, 0, api.ErrRange},
		{"1", -1, 4, 0, 0, api.ErrRange},
		{"1", 5, 4, 0, 0, api.ErrRange},
		{"1", 1, 0, 0, 0, api.ErrRange},
		{"1", 1, 21, 0, 0, api.ErrRange},
		{"", 0, 0, 0, 0, api.ErrRange},
		{"x", 21, 21, 0, 0, api.ErrRange},
		{"99999999999999999999", 0, 20, 0, 0, api.ErrRange},
	} {
		if n, many, err := Take(c.s, c.low, c.high); n != c.n || many != c.many || err != c.err {
			t.Errorf("Take(%q, %d, %d): %d, %d, %v; want %d, %d, %v", c.s, c.low, c.high, n, many, err, c.n, c.many, c.err)
		}
	}
}

// P2.1
func TestWholeByHand(t *testing.T) {
	for _, c := range []struct {
		s         string
		low, high int
		n         int64
		err       error
	}{
		{"0042", 1, 4, 42, nil},
		{"42", 2, 2, 42, nil},
		{"42", 3, 4, 0, api.ErrForm},
		{"42 ", 1, 4, 0, api.ErrForm},
		{"42", 1, 1, 0, api.ErrForm}, // a digit more than most
		{"9223372036854775807", 1, 20, most, nil},
		{"9223372036854775808", 1, 20, 0, api.ErrOver},
		{"9223372036854775808x", 1, 20, 0, api.ErrOver}, // Take's error comes first
		{"9223372036854775807x", 1, 20, 0, api.ErrForm},
		{"42x", 1, 21, 0, api.ErrRange},
		{"42x", 0, 4, 0, api.ErrRange},
		{"", 1, 4, 0, api.ErrForm},
	} {
		if n, err := Whole(c.s, c.low, c.high); n != c.n || err != c.err {
			t.Errorf("Whole(%q, %d, %d): %d, %v; want %d, %v", c.s, c.low, c.high, n, err, c.n, c.err)
		}
	}
}

// P2.1
func TestSigned(t *testing.T) {
	for s := range texts {
		for _, high := range []int{math.MinInt, -1, 0, 1, 2, 3, 18, 19, 20, 21, math.MaxInt} {
			want, wantErr := wantSigned(s, high)
			if n, err := Signed(s, high); n != want || err != wantErr {
				t.Errorf("Signed(%q, %d): %d, %v; want %d, %v", s, high, n, err, want, wantErr)
			}
		}
	}
}

// P2.1
func TestSignedByHand(t *testing.T) {
	for _, c := range []struct {
		s    string
		high int
		n    int64
		err  error
	}{
		{"5", 1, 5, nil},
		{"+5", 1, 5, nil}, // the sign isn't one of the digits
		{"-5", 1, -5, nil},
		{"-0", 1, 0, nil},
		{"-05", 2, -5, nil},
		{"-05", 1, 0, api.ErrForm},
		{"", 20, 0, api.ErrForm},
		{"+", 20, 0, api.ErrForm},
		{"-", 20, 0, api.ErrForm},
		{"+-5", 20, 0, api.ErrForm},
		{"-+5", 20, 0, api.ErrForm},
		{"--5", 20, 0, api.ErrForm},
		{"++5", 20, 0, api.ErrForm},
		{" 5", 20, 0, api.ErrForm},
		{"5-", 20, 0, api.ErrForm},
		{"9223372036854775807", 20, most, nil},
		{"+9223372036854775807", 19, most, nil},
		{"-9223372036854775807", 19, least + 1, nil},
		{"-9223372036854775808", 19, least, nil},
		{"-09223372036854775808", 20, least, nil},
		{"-9223372036854775808", 18, 0, api.ErrForm},
		{"9223372036854775808", 20, 0, api.ErrOver},
		{"+9223372036854775808", 20, 0, api.ErrOver},
		{"-9223372036854775809", 20, 0, api.ErrOver},
		{"-18446744073709551616", 20, 0, api.ErrOver},
		{"-9223372036854775808x", 20, 0, api.ErrForm}, // 2^63 after a hyphen is no error, but what follows is
		{"-9223372036854775809x", 20, 0, api.ErrOver},
		{"5", 0, 0, api.ErrRange},
		{"5", 21, 0, api.ErrRange},
		{"-5", 0, 0, api.ErrRange},
		{"-5", 21, 0, api.ErrRange},
		{"", 21, 0, api.ErrRange},
		{"-", -1, 0, api.ErrRange},
	} {
		if n, err := Signed(c.s, c.high); n != c.n || err != c.err {
			t.Errorf("Signed(%q, %d): %d, %v; want %d, %v", c.s, c.high, n, err, c.n, c.err)
		}
	}
}

// P2.1
func TestFraction(t *testing.T) {
	for s := range texts {
		var want int64
		var wantErr error = api.ErrLong
		if len(s) <= 9 {
			if want, wantErr = wantWhole(s, 1, 9, false); wantErr == nil {
				want, wantErr = wantWhole((s + "000000000")[:9], 9, 9, false)
			}
		}
		if n, err := Fraction(s); int64(n) != want || err != wantErr {
			t.Errorf("Fraction(%q): %d, %v; want %d, %v", s, n, err, want, wantErr)
		}
	}
}

// P2.1
func TestFractionByHand(t *testing.T) {
	for _, c := range []struct {
		s   string
		n   int
		err error
	}{
		{"05", 50000000, nil},
		{"5", 500000000, nil},
		{"0", 0, nil},
		{"000000000", 0, nil},
		{"000000001", 1, nil},
		{"00000001", 10, nil},
		{"123456789", 123456789, nil},
		{"999999999", 999999999, nil},
		{"9", 900000000, nil},
		{"0000000000", 0, api.ErrLong},
		{"xxxxxxxxxx", 0, api.ErrLong}, // wrong as well as long
		{"12345678x", 0, api.ErrForm},
		{"x", 0, api.ErrForm},
		{"-1", 0, api.ErrForm},
		{"", 0, api.ErrForm},
	} {
		if n, err := Fraction(c.s); n != c.n || err != c.err {
			t.Errorf("Fraction(%q): %d, %v; want %d, %v", c.s, n, err, c.n, c.err)
		}
	}
}

// nanos are fractions with zeros in all places, and some without.
func nanos() []int {
	list := []int{123456789, 987654321, 50000000, 100000001, 101010101, 999999999, 90, 909}
	for power := 1; power < api.Billion; power *= 10 {
		list = append(list, power, power-1, power+1, 7*power, api.Billion-power)
	}
	return list
}

// P2.1
func TestPutFractionAndShort(t *testing.T) {
	for _, nano := range nanos() {
		nine := fmt.Sprintf("%09d", nano)
		for many := range 10 {
			if s, err := PutFraction(nano, many); s != nine[:many] || err != nil {
				t.Errorf("PutFraction(%d, %d): %q, %v; want %q", nano, many, s, err, nine[:many])
			}
		}
		want := nine
		for strings.HasSuffix(want, "0") {
			want = want[:len(want)-1]
		}
		if s, err := Short(nano); s != want || err != nil {
			t.Errorf("Short(%d): %q, %v; want %q", nano, s, err, want)
		}
	}
}

// P2.1
func TestPutFractionAndShortByHand(t *testing.T) {
	for _, c := range []struct {
		nano, many int
		want       string
		err        error
	}{
		{50000000, 3, "050", nil},
		{50000000, 0, "", nil},
		{50000000, 9, "050000000", nil},
		{0, 9, "000000000", nil},
		{999999999, 1, "9", nil}, // cut off, not rounded
		{999999999, 9, "999999999", nil},
		{1000000000, 9, "", api.ErrRange},
		{-1, 9, "", api.ErrRange},
		{math.MinInt, 0, "", api.ErrRange},
		{math.MaxInt, 0, "", api.ErrRange},
		{5, -1, "", api.ErrRange},
		{5, 10, "", api.ErrRange},
		{5, math.MinInt, "", api.ErrRange},
		{5, math.MaxInt, "", api.ErrRange},
	} {
		if s, err := PutFraction(c.nano, c.many); s != c.want || err != c.err {
			t.Errorf("PutFraction(%d, %d): %q, %v; want %q, %v", c.nano, c.many, s, err, c.want, c.err)
		}
	}
	for _, c := range []struct {
		nano int
		want string
		err  error
	}{
		{0, "", nil},
		{1, "000000001", nil},
		{50000000, "05", nil},
		{100000000, "1", nil},
		{101000000, "101", nil},
		{999999999, "999999999", nil},
		{1000000000, "", api.ErrRange},
		{-1, "", api.ErrRange},
		{math.MinInt, "", api.ErrRange},
		{math.MaxInt, "", api.ErrRange},
	} {
		if s, err := Short(c.nano); s != c.want || err != c.err {
			t.Errorf("Short(%d): %q, %v; want %q, %v", c.nano, s, err, c.want, c.err)
		}
	}
}

// P2.1
func TestIs(t *testing.T) {
	for b := range 256 {
		if Is(byte(b)) != (b >= 48 && b <= 57) {
			t.Errorf("Is(%d): %v", b, Is(byte(b)))
		}
	}
}

// P2.2
func TestNumbersAreReadBack(t *testing.T) {
	for _, n := range numbers() {
		for width := range 21 {
			s, err := Put(n, width)
			if err != nil {
				t.Errorf("Put(%d, %d): %v", n, width, err)
			}
			if back, err := Signed(s, 20); back != n || err != nil {
				t.Errorf("Signed(%q): %d, %v; want %d", s, back, err, n)
			}
		}
	}
}

// P2.2
func TestFractionsAreReadBack(t *testing.T) {
	list := nanos()
	for nano := 0; nano < api.Billion; nano += 99991 {
		list = append(list, nano)
	}
	for _, nano := range list {
		nine, err := PutFraction(nano, 9)
		if err != nil {
			t.Errorf("PutFraction(%d, 9): %v", nano, err)
		}
		if back, err := Fraction(nine); back != nano || err != nil {
			t.Errorf("Fraction(%q): %d, %v; want %d", nine, back, err, nano)
		}
		short, err := Short(nano)
		if err != nil || (short == "") != (nano == 0) {
			t.Errorf("Short(%d): %q, %v", nano, short, err)
		}
		if short == "" {
			continue
		}
		if back, err := Fraction(short); back != nano || err != nil {
			t.Errorf("Fraction(%q): %d, %v; want %d", short, back, err, nano)
		}
	}
}
