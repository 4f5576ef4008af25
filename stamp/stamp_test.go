package stamp

import (
	"bytes"
	"encoding/binary"
	"math"
	"math/big"
	"testing"
	"time"

	"horologe/api"
)

// random makes numbers that look random, the same in each run.
type random uint64

func (r *random) next() uint64 {
	*r ^= *r << 13
	*r ^= *r >> 7
	*r ^= *r << 17
	return uint64(*r)
}

// large is a number without bounds.
func large(n int64) *big.Int {
	return big.NewInt(n)
}

// power is two to a power.
func power(k uint) *big.Int {
	return new(big.Int).Lsh(large(1), k)
}

// plus is a sum.
func plus(a, b *big.Int) *big.Int {
	return new(big.Int).Add(a, b)
}

// times is a product.
func times(a, b *big.Int) *big.Int {
	return new(big.Int).Mul(a, b)
}

// minus is a difference.
func minus(a, b *big.Int) *big.Int {
	return new(big.Int).Sub(a, b)
}

// down is a quotient, rounded down, of numbers that aren't below 0.
func down(a, b *big.Int) *big.Int {
	return new(big.Int).Quo(a, b)
}

// rest is a number's remainder by a power of two.
func rest(n *big.Int, k uint) *big.Int {
	return new(big.Int).Mod(n, power(k))
}

// second tells whether a second has such nanoseconds.
func second(nano int) bool {
	return nano >= 0 && nano <= 999999999
}

// wantFraction is the least fraction that isn't less than nanoseconds.
func wantFraction(nano int) (uint32, error) {
	if !second(nano) {
		return 0, api.ErrRange
	}
	units := times(large(int64(nano)), power(32)) // a billion times as many
	f := down(units, large(1000000000))
	if times(f, large(1000000000)).Cmp(units) < 0 {
		f = plus(f, large(1))
	}
	if !f.IsUint64() || f.Uint64() > math.MaxUint32 {
		panic("a fraction of more than 32 bits")
	}
	return uint32(f.Uint64()), nil
}

// wantNano is the whole nanoseconds in a fraction of so many bits.
func wantNano(fraction uint32, k uint) int {
	return int(down(times(large(int64(fraction)), large(1000000000)), power(k)).Int64())
}

// wantOf is the chapter's long stamp.
func wantOf(t int64, nano int) (Long, error) {
	f, err := wantFraction(nano)
	if err != nil {
		return Long{}, err
	}
	return Long{uint32(rest(large(t), 32).Uint64()), f}, nil
}

// wantTime is the chapter's network seconds and nanoseconds of a long stamp.
func wantTime(l Long, pivot int64) (int64, int, error) {
	p := large(pivot)
	low := minus(p, power(31))
	t := plus(low, rest(minus(large(int64(l.Seconds)), low), 32)) // the first number that folds to the seconds, from the lowest near one on
	if rest(t, 32).Cmp(large(int64(l.Seconds))) != 0 || t.Cmp(low) < 0 || t.Cmp(plus(p, power(31))) >= 0 {
		panic("no number is near the pivot")
	}
	if !t.IsInt64() {
		return 0, 0, api.ErrOver
	}
	return t.Int64(), wantNano(l.Fraction, 32), nil
}

// wantShort is the chapter's short stamp.
func wantShort(seconds, nano int) (Short, error) {
	if seconds < 0 || seconds > 65535 || !second(nano) {
		return Short{}, api.ErrRange
	}
	units := down(times(large(int64(nano)), power(16)), large(1000000000))
	return Short{uint16(seconds), uint16(units.Uint64())}, nil
}

// numbers are those around zero, around the epoch, around powers of two and their multiples, and at the ends.
func numbers(more int) []int64 {
	var list []int64
	for d := int64(-2); d <= 2; d++ {
		list = append(list, d, 2208988800+d, -2208988800+d, math.MinInt64+2+d, math.MaxInt64-2+d)
		list = append(list, math.MinInt64+2208988800+d, math.MaxInt64-2208988800+d, math.MinInt64+1<<31+d, math.MaxInt64-1<<31+d)
		list = append(list, math.MinInt64+1<<32+d, math.MaxInt64-1<<32+d, 3<<31+d, -3<<31+d, 5<<31+d, 7<<32+d, -7<<32+d)
	}
	for k := range 63 {
		for d := int64(-1); d <= 1; d++ {
			list = append(list, 1<<k+d, -(1<<k)+d)
		}
	}
	r := random(15)
	for range more {
		list = append(list, int64(r.next())>>(r.next()%64))
	}
	return list
}

// nanos are nanoseconds, and wrong ones.
func nanos(more int) []int {
	list := []int{
		math.MinInt, math.MinInt + 1, math.MinInt32, -1000000000, -999999999, -1000, -2, -1,
		1000000000, 1000000001, 1999999999, math.MaxInt32, 1 << 32, 1<<32 + 1, 1<<32 + 500000000, math.MaxInt - 1, math.MaxInt,
	}
	for d := range 4 {
		list = append(list, d, 15258+d, 125000000+d, 250000000+d, 333333332+d, 500000000-d, 500000000+d, 999984740+d, 999999999-d)
	}
	for k := range 30 {
		list = append(list, 1<<k-1, 1<<k)
	}
	r := random(1515)
	for range more {
		list = append(list, int(r.next()%1000000000))
	}
	return list
}

// fractions are those at the ends, around powers of two, and around those of whole nanoseconds.
func fractions(more int) []uint32 {
	list := []uint32{0, 1, 2, 3, 4, 5, 6, 8, 9, math.MaxUint32, 4294967290, 4294967291, 4294967292, 4294967293, 4294967294}
	for k := range 32 {
		list = append(list, 1<<k-1, 1<<k, 1<<k+1)
	}
	r := random(151515)
	for range more {
		f, err := wantFraction(int(r.next() % 1000000000))
		if err != nil {
			panic(err)
		}
		list = append(list, f-1, f, f+1, uint32(r.next()))
	}
	return list
}

// longs are long stamps of all kinds.
func longs(more int) []Long {
	var list []Long
	edges := []uint32{0, 1, 1<<31 - 1, 1 << 31, 1<<31 + 1, math.MaxUint32 - 1, math.MaxUint32}
	for _, s := range edges {
		for _, f := range edges {
			list = append(list, Long{s, f})
		}
	}
	r := random(32)
	for range more {
		list = append(list, Long{uint32(r.next()), uint32(r.next())})
	}
	return list
}

// shorts are short stamps of all kinds.
func shorts(more int) []Short {
	var list []Short
	edges := []uint16{0, 1, 2, 255, 256, 1<<15 - 1, 1 << 15, 1<<15 + 1, math.MaxUint16 - 1, math.MaxUint16}
	for _, s := range edges {
		for _, f := range edges {
			list = append(list, Short{s, f})
		}
	}
	r := random(16)
	for range more {
		list = append(list, Short{uint16(r.next()), uint16(r.next())})
	}
	return list
}

// P15.1: a fraction is the least one that isn't less than the nanoseconds, of which a second has fewer than a billion.
func TestFraction(t *testing.T) {
	for _, n := range nanos(20000) {
		want, fault := wantFraction(n)
		if f, err := Fraction(n); f != want || err != fault {
			t.Fatal(n, f, err, want, fault)
		}
	}
}

// P15.1: the nanoseconds of a fraction are the whole ones in it.
func TestNano(t *testing.T) {
	for _, f := range fractions(20000) {
		if n := Nano(f); n != wantNano(f, 32) {
			t.Fatal(f, n, wantNano(f, 32))
		}
	}
}

// P15.1: fractions and nanoseconds by hand.
func TestFractionsByHand(t *testing.T) {
	for i, c := range []struct {
		nano     int
		fraction uint32
		err      error
	}{
		{0, 0, nil},
		{1, 5, nil}, // 4.29 units
		{2, 9, nil},
		{7, 31, nil},                 // 30.06 units
		{500000000, 2147483648, nil}, // the chapter's example
		{250000000, 1 << 30, nil},
		{1000000000 - 1953125, 1<<32 - 1<<23, nil}, // a whole number of units stays as it is
		{499999999, 2147483644, nil},
		{999999999, 4294967292, nil},
		{-1, 0, api.ErrRange},
		{1000000000, 0, api.ErrRange},
		{1 << 32, 0, api.ErrRange},
		{math.MinInt, 0, api.ErrRange},
		{math.MaxInt, 0, api.ErrRange},
	} {
		if f, err := Fraction(c.nano); f != c.fraction || err != c.err {
			t.Error(i, c, f, err)
		}
	}
	for i, c := range []struct {
		fraction uint32
		nano     int
	}{
		{0, 0}, {1, 0}, {4, 0}, {5, 1}, {8, 1}, {9, 2}, {30, 6}, {31, 7},
		{2147483643, 499999998}, {2147483647, 499999999}, {2147483648, 500000000}, {4294967291, 999999998}, {4294967292, 999999999}, {4294967295, 999999999},
	} {
		if n := Nano(c.fraction); n != c.nano {
			t.Error(i, c, n)
		}
	}
}

// P15.1: a long stamp has the lowest 32 bits of the seconds, and the fraction; no stamp has wrong nanoseconds.
func TestOf(t *testing.T) {
	list := nanos(20)
	for _, n := range numbers(2000) {
		for _, nano := range list {
			want, fault := wantOf(n, nano)
			if l, err := Of(n, nano); l != want || err != fault {
				t.Fatal(n, nano, l, err, want, fault)
			}
		}
	}
	for i, c := range []struct {
		t    int64
		nano int
		want Long
		err  error
	}{
		{0, 0, Long{}, nil},
		{-1, 999999999, Long{math.MaxUint32, 4294967292}, nil},
		{1<<32 - 1, 0, Long{math.MaxUint32, 0}, nil},
		{1 << 32, 1, Long{0, 5}, nil},
		{-1 << 32, 500000000, Long{0, 1 << 31}, nil},
		{math.MinInt64, 0, Long{}, nil},
		{math.MaxInt64, 2, Long{math.MaxUint32, 9}, nil},
		{5, -1, Long{}, api.ErrRange},
		{5, 1000000000, Long{}, api.ErrRange},
	} {
		if l, err := Of(c.t, c.nano); l != c.want || err != c.err {
			t.Error(i, c, l, err)
		}
	}
}

// P15.1: of the seconds that fold to a stamp's, those near the pivot are told, or that they are out of range.
func TestTime(t *testing.T) {
	list := longs(50)
	for _, p := range numbers(2000) {
		near := append([]Long(nil), list...)
		for _, d := range []int64{-1<<31 - 1, -1 << 31, 1 - 1<<31, -1, 0, 1, 1<<31 - 1, 1 << 31, 1<<31 + 1} {
			near = append(near, Long{uint32(rest(plus(large(p), large(d)), 32).Uint64()), 5})
		}
		for _, l := range near {
			wantSeconds, wantNanos, fault := wantTime(l, p)
			if s, n, err := Time(l, p); s != wantSeconds || n != wantNanos || err != fault {
				t.Fatal(l, p, s, n, err, wantSeconds, wantNanos, fault)
			}
		}
	}
}

// P15.1: the edges of what is near, by hand.
func TestTimesByHand(t *testing.T) {
	for i, c := range []struct {
		l     Long
		pivot int64
		t     int64
		nano  int
		err   error
	}{
		{Long{0, 0}, 0, 0, 0, nil},
		{Long{5, 1 << 31}, 1 << 32, 1<<32 + 5, 500000000, nil},
		{Long{0, 5}, 4294967290, 1 << 32, 1, nil},
		{Long{0, 4}, 1 << 31, 0, 0, nil}, // exactly half an era before the pivot
		{Long{0, math.MaxUint32}, 1<<31 + 1, 1 << 32, 999999999, nil},
		{Long{1 << 31, 0}, 0, -1 << 31, 0, nil},
		{Long{1<<31 - 1, 0}, 0, 1<<31 - 1, 0, nil},
		{Long{math.MaxUint32, 0}, 0, -1, 0, nil},
		{Long{math.MaxUint32, 1 << 30}, math.MaxInt64, math.MaxInt64, 250000000, nil},
		{Long{0, 0}, math.MinInt64, math.MinInt64, 0, nil},
		{Long{0, 1 << 31}, math.MaxInt64, 0, 0, api.ErrOver}, // one second after all numbers
		{Long{1<<31 - 2, 1}, math.MaxInt64, 0, 0, api.ErrOver},
		{Long{1<<31 - 1, 0}, math.MaxInt64, math.MaxInt64 - 1<<31, 0, nil},
		{Long{math.MaxUint32, 1 << 31}, math.MinInt64, 0, 0, api.ErrOver},
		{Long{1 << 31, 0}, math.MinInt64, 0, 0, api.ErrOver},
		{Long{1<<31 - 1, 0}, math.MinInt64, math.MinInt64 + 1<<31 - 1, 0, nil},
	} {
		if s, n, err := Time(c.l, c.pivot); s != c.t || n != c.nano || err != c.err {
			t.Error(i, c, s, n, err)
		}
	}
}

// P15.1: network seconds are machine seconds and 2208988800.
func TestPosix(t *testing.T) {
	for _, n := range numbers(5000) {
		for _, c := range []struct {
			name  string
			call  func(int64) (int64, error)
			apart int64
		}{{"FromPosix", FromPosix, 2208988800}, {"ToPosix", ToPosix, -2208988800}} {
			want, fault := plus(large(n), large(c.apart)), error(nil)
			if !want.IsInt64() {
				want, fault = large(0), api.ErrOver
			}
			if got, err := c.call(n); got != want.Int64() || err != fault {
				t.Fatal(c.name, n, got, err, want, fault)
			}
		}
	}
}

// P15.1: the ends of what has network seconds, or machine seconds, by hand.
func TestPosixEnds(t *testing.T) {
	const apart = 2208988800
	for i, c := range []struct {
		call    func(int64) (int64, error)
		n, want int64
		err     error
	}{
		{FromPosix, 0, apart, nil},
		{FromPosix, -apart, 0, nil},
		{FromPosix, math.MinInt64, math.MinInt64 + apart, nil},
		{FromPosix, math.MaxInt64 - apart, math.MaxInt64, nil},
		{FromPosix, math.MaxInt64 - apart + 1, 0, api.ErrOver},
		{FromPosix, math.MaxInt64, 0, api.ErrOver},
		{ToPosix, 0, -apart, nil},
		{ToPosix, apart, 0, nil},
		{ToPosix, math.MaxInt64, math.MaxInt64 - apart, nil},
		{ToPosix, math.MinInt64 + apart, math.MinInt64, nil},
		{ToPosix, math.MinInt64 + apart - 1, 0, api.ErrOver},
		{ToPosix, math.MinInt64, 0, api.ErrOver},
	} {
		if got, err := c.call(c.n); got != c.want || err != c.err {
			t.Error(i, c.n, got, err, c.want, c.err)
		}
	}
}

// P15.1: network second 0 is the beginning of 1900 in the library's calendar.
func TestEpoch(t *testing.T) {
	start := time.Date(1900, 1, 1, 0, 0, 0, 0, time.UTC)
	for _, at := range []time.Time{
		start,
		start.Add(-time.Second),
		time.Date(1968, 1, 20, 3, 14, 8, 0, time.UTC),
		time.Date(1970, 1, 1, 0, 0, 0, 0, time.UTC),
		time.Date(2036, 2, 7, 6, 28, 16, 0, time.UTC),
		time.Date(2100, 3, 1, 0, 0, 0, 0, time.UTC),
	} {
		want := int64(at.Sub(start) / time.Second)
		if got, err := FromPosix(at.Unix()); got != want || err != nil {
			t.Error(at, got, err, want)
		}
		if got, err := ToPosix(want); got != at.Unix() || err != nil {
			t.Error(at, got, err, at.Unix())
		}
	}
	if got, err := FromPosix(time.Date(2036, 2, 7, 6, 28, 16, 0, time.UTC).Unix()); got != 1<<32 || err != nil { // when the first era ends
		t.Error(got, err)
	}
}

// P15.1: a long stamp has eight bytes, its seconds' before its fraction's, each with the highest one first.
func TestBytes(t *testing.T) {
	for _, l := range append(longs(2000), Long{0x01020304, 0x05060708}, Long{0xfffefdfc, 0xfbfaf9f8}) {
		want := binary.BigEndian.AppendUint32(binary.BigEndian.AppendUint32(nil, l.Seconds), l.Fraction)
		b := Bytes(l)
		if !bytes.Equal(b, want) {
			t.Fatal(l, b, want)
		}
		got, err := Parse(b)
		if got != l || err != nil || !bytes.Equal(b, want) {
			t.Fatal(l, b, got, err)
		}
		b[0], b[7] = ^b[0], ^b[7]
		if again := Bytes(l); !bytes.Equal(again, want) {
			t.Fatal(l, again)
		}
	}
	if b := Bytes(Long{0x01020304, 0x05060708}); !bytes.Equal(b, []byte{1, 2, 3, 4, 5, 6, 7, 8}) {
		t.Error(b)
	}
}

// P15.1: a short stamp has four bytes, in the same order.
func TestShortBytes(t *testing.T) {
	for _, s := range append(shorts(2000), Short{0x0102, 0x0304}, Short{0xfffe, 0xfdfc}) {
		want := binary.BigEndian.AppendUint16(binary.BigEndian.AppendUint16(nil, s.Seconds), s.Fraction)
		b := ShortBytes(s)
		if !bytes.Equal(b, want) {
			t.Fatal(s, b, want)
		}
		got, err := ParseShort(b)
		if got != s || err != nil || !bytes.Equal(b, want) {
			t.Fatal(s, b, got, err)
		}
		b[0], b[3] = ^b[0], ^b[3]
		if again := ShortBytes(s); !bytes.Equal(again, want) {
			t.Fatal(s, again)
		}
	}
	if b := ShortBytes(Short{0x0102, 0x0304}); !bytes.Equal(b, []byte{1, 2, 3, 4}) {
		t.Error(b)
	}
}

// P15.1: a stamp is read from exactly as many bytes as it has, whatever lies behind them.
func TestLengths(t *testing.T) {
	memory := make([]byte, 100)
	for i := range memory {
		memory[i] = byte(200 - i)
	}
	before := bytes.Clone(memory)
	for at := range 10 {
		for many := range 40 {
			b := memory[at : at+many]
			l, err := Parse(b)
			if many == 8 {
				if want := (Long{binary.BigEndian.Uint32(b), binary.BigEndian.Uint32(b[4:])}); l != want || err != nil {
					t.Fatal(at, l, err, want)
				}
			} else if l != (Long{}) || err != api.ErrForm {
				t.Fatal(at, many, l, err)
			}
			s, err := ParseShort(b)
			if many == 4 {
				if want := (Short{binary.BigEndian.Uint16(b), binary.BigEndian.Uint16(b[2:])}); s != want || err != nil {
					t.Fatal(at, s, err, want)
				}
			} else if s != (Short{}) || err != api.ErrForm {
				t.Fatal(at, many, s, err)
			}
		}
	}
	if !bytes.Equal(memory, before) {
		t.Error("the bytes that were read have changed")
	}
	for _, b := range [][]byte{nil, {}, make([]byte, 1<<16)} {
		if l, err := Parse(b); l != (Long{}) || err != api.ErrForm {
			t.Error(len(b), l, err)
		}
		if s, err := ParseShort(b); s != (Short{}) || err != api.ErrForm {
			t.Error(len(b), s, err)
		}
	}
}

// wantSub is the difference of two stamps' bits, folded to a number with a sign.
func wantSub(a, b Long) int64 {
	bits := func(l Long) *big.Int {
		return plus(times(large(int64(l.Seconds)), power(32)), large(int64(l.Fraction)))
	}
	d := rest(minus(bits(a), bits(b)), 64)
	if d.Cmp(power(63)) >= 0 {
		d = minus(d, power(64))
	}
	return d.Int64()
}

// P15.1: stamps are subtracted as 64 bits.
func TestSub(t *testing.T) {
	list := longs(100)
	for _, a := range list {
		for _, b := range list {
			if d := Sub(a, b); d != wantSub(a, b) {
				t.Fatal(a, b, d, wantSub(a, b))
			}
		}
	}
	for i, c := range []struct {
		a, b Long
		want int64
	}{
		{Long{}, Long{}, 0},
		{Long{7, 9}, Long{7, 9}, 0},
		{Long{1, 0}, Long{0, 0}, 1 << 32},
		{Long{0, 0}, Long{1, 0}, -1 << 32},
		{Long{1, 0}, Long{1, 1}, -1},
		{Long{2, 0}, Long{1, math.MaxUint32}, 1},                      // a unit is borrowed from the seconds
		{Long{0, 0}, Long{math.MaxUint32, math.MaxUint32}, 1},         // a new era has begun
		{Long{math.MaxUint32, math.MaxUint32}, Long{0, 0}, -1},        // and the other way round
		{Long{1<<31 - 1, math.MaxUint32}, Long{0, 0}, math.MaxInt64},  // as far ahead as can be
		{Long{1 << 31, 0}, Long{0, 0}, math.MinInt64},                 // one unit more
		{Long{0, 0}, Long{1 << 31, 0}, math.MinInt64},                 // which is the same either way
		{Long{0, 0}, Long{1<<31 - 1, math.MaxUint32}, -math.MaxInt64}, // one unit less
	} {
		if d := Sub(c.a, c.b); d != c.want {
			t.Error(i, c, d)
		}
	}
}

// P15.1: a short stamp has the whole units in the nanoseconds, and no seconds of more than 16 bits.
func TestShortOf(t *testing.T) {
	for _, s := range []int{
		0, 1, 2, 255, 256, 32767, 32768, 65534, 65535,
		-1, -2, -65535, -65536, 65536, 65537, 131071, 1 << 31, 1 << 32, 1<<32 + 7, math.MinInt, math.MinInt + 1, math.MaxInt,
	} {
		for _, n := range nanos(5000) {
			want, fault := wantShort(s, n)
			if got, err := ShortOf(s, n); got != want || err != fault {
				t.Fatal(s, n, got, err, want, fault)
			}
		}
	}
	for i, c := range []struct {
		seconds, nano int
		want          Short
		err           error
	}{
		{0, 0, Short{}, nil},
		{0, 15258, Short{}, nil}, // a unit has 15258.78 nanoseconds
		{0, 15259, Short{0, 1}, nil},
		{0, 30517, Short{0, 1}, nil},
		{0, 30518, Short{0, 2}, nil},
		{7, 499999999, Short{7, 32767}, nil},
		{7, 500000000, Short{7, 32768}, nil},
		{65535, 999984741, Short{65535, 65534}, nil},
		{65535, 999984742, Short{65535, 65535}, nil},
		{65535, 999999999, Short{65535, 65535}, nil},
		{65536, 0, Short{}, api.ErrRange},
		{-1, 0, Short{}, api.ErrRange},
		{7, -1, Short{}, api.ErrRange},
		{7, 1000000000, Short{}, api.ErrRange},
		{-1, -1, Short{}, api.ErrRange},
	} {
		if s, err := ShortOf(c.seconds, c.nano); s != c.want || err != c.err {
			t.Error(i, c, s, err)
		}
	}
}

// P15.1: a short stamp has whole nanoseconds, for each of its fractions.
func TestSpan(t *testing.T) {
	for f := range 1 << 16 {
		for _, s := range []uint16{0, 1, 1 << 15, uint16(f), math.MaxUint16} {
			if seconds, nano := Span(Short{s, uint16(f)}); seconds != int(s) || nano != wantNano(uint32(f), 16) {
				t.Fatal(s, f, seconds, nano, wantNano(uint32(f), 16))
			}
		}
	}
	for i, c := range []struct {
		s             Short
		seconds, nano int
	}{
		{Short{}, 0, 0},
		{Short{0, 1}, 0, 15258},
		{Short{0, 2}, 0, 30517},
		{Short{1, 1 << 15}, 1, 500000000},
		{Short{65535, 65535}, 65535, 999984741},
	} {
		if s, n := Span(c.s); s != c.seconds || n != c.nano {
			t.Error(i, c, s, n)
		}
	}
}

// P15.1: only the stamp whose two halves are 0 is zero.
func TestZero(t *testing.T) {
	if !Zero(Long{}) {
		t.Error("the zero stamp")
	}
	for k := range 32 {
		for _, l := range []Long{{1 << k, 0}, {0, 1 << k}, {1 << k, 1 << k}} {
			if Zero(l) {
				t.Error(l)
			}
		}
	}
	for _, l := range longs(1000) {
		if Zero(l) != (l.Seconds == 0 && l.Fraction == 0) {
			t.Error(l)
		}
	}
}

// P15.2: nanoseconds come back from their fraction.
func TestNanosAndBack(t *testing.T) {
	check := func(nano int) {
		f, err := Fraction(nano)
		if n := Nano(f); n != nano || err != nil {
			t.Fatal(nano, f, n, err)
		}
	}
	for n := 0; n < 1000000000; n += 997 {
		check(n)
	}
	for d := range 100000 {
		check(d)
		check(500000000 - 50000 + d)
		check(999999999 - d)
	}
}

// P15.2: a fraction comes back from its nanoseconds as itself, or as one of the four before it.
func TestFractionsAndBack(t *testing.T) {
	seen := map[uint32]bool{}
	check := func(fraction uint32) {
		back, err := Fraction(Nano(fraction))
		if err != nil || back > fraction || fraction-back > 4 {
			t.Fatal(fraction, back, err)
		}
		seen[fraction-back] = true
	}
	for f := uint64(0); f <= math.MaxUint32; f += 4099 {
		check(uint32(f))
	}
	for d := range uint32(100000) {
		check(d)
		check(1<<31 - 50000 + d)
		check(math.MaxUint32 - d)
	}
	for d := range uint32(5) {
		if !seen[d] {
			t.Error("no fraction comes back as", d, "less")
		}
	}
}

// P15.3: a moment comes back from its stamp by a pivot that is near, and otherwise whole eras away.
func TestMomentsAndBack(t *testing.T) {
	const half = 1 << 31
	for _, n := range numbers(3000) {
		nano := int(uint64(n) * 2654435761 % 1000000000)
		l, err := Of(n, nano)
		if err != nil {
			t.Fatal(n, nano, err)
		}
		for _, ahead := range []int64{1 - half, 2 - half, -1000, -1, 0, 1, 1000, half - 1, half} { // seconds that the pivot is ahead
			p := n + ahead
			if p > n != (ahead > 0) { // wrapped around
				continue
			}
			if s, back, err := Time(l, p); s != n || back != nano || err != nil {
				t.Fatal(n, nano, p, s, back, err)
			}
		}
		if n < math.MinInt64+4*half || n > math.MaxInt64-4*half {
			continue
		}
		for _, c := range []struct{ ahead, moved int64 }{{half + 1, 2 * half}, {-half, -2 * half}, {2 * half, 2 * half}, {-2 * half, -2 * half}} {
			if s, back, err := Time(l, n+c.ahead); s != n+c.moved || back != nano || err != nil {
				t.Fatal(n, nano, c, s, back, err)
			}
		}
	}
}

// P15.3: a stamp comes back from its moment, but for a fraction that is at most 4 less.
func TestStampsAndBack(t *testing.T) {
	for _, p := range numbers(300) {
		for _, l := range longs(200) {
			s, nano, err := Time(l, p)
			if err != nil {
				continue
			}
			back, err := Of(s, nano)
			if err != nil || back.Seconds != l.Seconds || back.Fraction > l.Fraction || l.Fraction-back.Fraction > 4 {
				t.Fatal(l, p, s, nano, back, err)
			}
		}
	}
}

// P15.1: neither earlier calls nor their errors show in a later answer.
func TestOrderDoesNotMatter(t *testing.T) {
	for range 3 {
		if _, err := Of(1, -1); err != api.ErrRange {
			t.Error(err)
		}
		if l, err := Of(1, 500000000); l != (Long{1, 1 << 31}) || err != nil {
			t.Error(l, err)
		}
		if _, _, err := Time(Long{}, math.MaxInt64); err != api.ErrOver {
			t.Error(err)
		}
		if s, n, err := Time(Long{1, 1 << 31}, 0); s != 1 || n != 500000000 || err != nil {
			t.Error(s, n, err)
		}
		if _, err := Parse(nil); err != api.ErrForm {
			t.Error(err)
		}
		if l, err := Parse(Bytes(Long{1, 2})); l != (Long{1, 2}) || err != nil {
			t.Error(l, err)
		}
	}
}
