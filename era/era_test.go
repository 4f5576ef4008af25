package era

import (
	"math"
	"math/big"
	"slices"
	"testing"

	"horologe/api"
)

// named are words of types that have a name of their own.
type (
	named8  uint8
	named16 uint16
	named32 uint32
)

// random makes numbers that look random, the same in each run.
type random uint64

func (r *random) next() uint64 {
	*r ^= *r << 13
	*r ^= *r >> 7
	*r ^= *r << 17
	return uint64(*r)
}

// power is two to a power.
func power(k int) *big.Int {
	return new(big.Int).Lsh(big.NewInt(1), uint(k))
}

// plus is a sum.
func plus(a, b *big.Int) *big.Int {
	return new(big.Int).Add(a, b)
}

// rest is a number's rest by a divisor, never below 0.
func rest(a, by *big.Int) *big.Int {
	return new(big.Int).Mod(a, by)
}

// beside tells whether t is at least p - 2^(k-1) and less than p + 2^(k-1).
func beside(t, p *big.Int, k int) bool {
	return plus(p, new(big.Int).Neg(power(k-1))).Cmp(t) <= 0 && t.Cmp(plus(p, power(k-1))) < 0
}

// unfolded is the chapter's only number that folds to a word and is close to a pivot.
func unfolded(word uint64, k int, pivot int64) (int64, error) {
	folded, p := new(big.Int).SetUint64(word), big.NewInt(pivot)
	if k < 1 || k > 62 || folded.Cmp(power(k)) >= 0 {
		return 0, api.ErrRange
	}
	block := plus(p, new(big.Int).Neg(rest(p, power(k)))) // the greatest multiple of 2^k that isn't above the pivot
	for shift := int64(-1); shift <= 1; shift++ {
		t := plus(plus(block, folded), new(big.Int).Mul(power(k), big.NewInt(shift)))
		if !beside(t, p, k) {
			continue
		}
		if !t.IsInt64() {
			return 0, api.ErrOver
		}
		return t.Int64(), nil
	}
	panic("no number is near the pivot")
}

// numbers are those around zero, around powers of two and their multiples, and at the ends.
func numbers(more int) []int64 {
	list := []int64{math.MinInt64, math.MinInt64 + 1, math.MinInt64 + 2, math.MaxInt64, math.MaxInt64 - 1, 3692217600, 4294967290}
	for k := range 63 {
		for d := int64(-2); d <= 2; d++ {
			list = append(list, 1<<k+d, -(1<<k)+d, math.MinInt64+1<<k+d, math.MaxInt64-1<<k+d)
		}
	}
	r := random(13)
	for range more {
		list = append(list, int64(r.next())>>(r.next()%64))
	}
	return list
}

// counts are numbers of bits, the wrong ones among them.
func counts() []int {
	list := []int{math.MinInt, math.MinInt + 1, -64, -62, -2, 128, 1 << 32, 1<<32 + 8, math.MaxInt}
	for k := -1; k <= 66; k++ {
		list = append(list, k)
	}
	return list
}

// allows tells whether there may be so many bits.
func allows(k int) bool {
	return k >= 1 && k <= 62
}

// P13.1: a number is folded to its rest.
func TestFoldBits(t *testing.T) {
	for _, k := range counts() {
		for _, n := range numbers(200) {
			got, err := FoldBits(n, k)
			if !allows(k) {
				if got != 0 || err != api.ErrRange {
					t.Fatal(n, k, got, err)
				}
				continue
			}
			if want := rest(big.NewInt(n), power(k)).Uint64(); got != want || err != nil {
				t.Fatal(n, k, got, want, err)
			}
		}
	}
}

// folds checks one type of words, which has so many bits.
func folds[T Word](t *testing.T, k int) {
	t.Helper()
	for _, n := range numbers(2000) {
		if got, want := Fold[T](n), rest(big.NewInt(n), power(k)).Uint64(); uint64(got) != want {
			t.Fatal(n, k, got, want)
		}
	}
	words := []T{0, 1, 2, T(1)<<(k-1) - 1, T(1) << (k - 1), T(1)<<(k-1) + 1, ^T(0) - 1, ^T(0)}
	r := random(31)
	for range 20 {
		words = append(words, T(r.next()))
	}
	for _, w := range words {
		for _, p := range numbers(1000) {
			got, err := Unfold(w, p)
			if want, fault := unfolded(uint64(w), k, p); got != want || err != fault {
				t.Fatal(w, k, p, got, want, err, fault)
			}
		}
	}
}

// P13.1: a word has as many bits as its type, whatever its type's name.
func TestWords(t *testing.T) {
	folds[uint8](t, 8)
	folds[uint16](t, 16)
	folds[uint32](t, 32)
	folds[named8](t, 8)
	folds[named16](t, 16)
	folds[named32](t, 32)
}

// P13.1: of the numbers that fold to a word, the one near the pivot is told.
func TestBits(t *testing.T) {
	r := random(1313)
	for _, k := range counts() {
		words := []uint64{0, 1, math.MaxUint64, 1 << 63, 1 << 62}
		if allows(k) {
			words = append(words, 1<<k-2, 1<<k-1, 1<<k, 1<<k+1, 1<<(k-1)-1, 1<<(k-1), 1<<(k-1)+1, r.next()%(1<<k))
		}
		for _, p := range numbers(100) {
			list := words
			if allows(k) { // words at both ends of what is near this pivot
				list = append(slices.Clone(words), uint64(p)%(1<<k), (uint64(p)+1<<(k-1))%(1<<k), (uint64(p)+1<<(k-1)-1)%(1<<k))
			}
			for _, w := range list {
				got, err := Bits(w, k, p)
				if want, fault := unfolded(w, k, p); got != want || err != fault {
					t.Fatal(w, k, p, got, want, err, fault)
				}
			}
		}
	}
}

// P13.1: the edges that the chapter names, by hand.
func TestEdges(t *testing.T) {
	for i, c := range []struct {
		word  uint64
		bits  int
		pivot int64
		want  int64
		err   error
	}{
		{0, 32, 4294967290, 4294967296, nil}, // the chapter's example
		{4294967290, 32, 4294967296, 4294967290, nil},
		{0, 32, 1 << 31, 0, nil}, // exactly half below the pivot is near it, exactly half above isn't
		{1 << 31, 32, 1 << 32, 1 << 31, nil},
		{0, 10, 511, 0, nil},
		{0, 10, 512, 0, nil},
		{0, 10, 513, 1024, nil},
		{0, 1, 0, 0, nil},
		{1, 1, 0, -1, nil},
		{1, 1, 1, 1, nil},
		{0, 1, 1, 0, nil},
		{1 << 61, 62, 0, -1 << 61, nil},
		{1<<61 - 1, 62, 0, 1<<61 - 1, nil},
		{1<<62 - 1, 62, math.MaxInt64, math.MaxInt64, nil},
		{0, 62, math.MaxInt64, 0, api.ErrOver},
		{1<<61 - 1, 62, math.MaxInt64, math.MaxInt64 - 1<<61, nil},
		{1<<61 - 2, 62, math.MaxInt64, 0, api.ErrOver},
		{1 << 61, 62, math.MaxInt64, math.MaxInt64 - 1<<61 + 1, nil},
		{0, 62, math.MinInt64, math.MinInt64, nil},
		{1<<62 - 1, 62, math.MinInt64, 0, api.ErrOver},
		{1<<61 - 1, 62, math.MinInt64, math.MinInt64 + 1<<61 - 1, nil},
		{1 << 61, 62, math.MinInt64, 0, api.ErrOver},
		{1, 1, math.MinInt64, 0, api.ErrOver},
		{0, 1, math.MinInt64, math.MinInt64, nil},
		{0, 1, math.MaxInt64, math.MaxInt64 - 1, nil},
		{1024, 10, math.MaxInt64, 0, api.ErrRange}, // a word that is too great, before the number's range
		{1 << 32, 32, 0, 0, api.ErrRange},
		{1 << 62, 62, 0, 0, api.ErrRange},
		{math.MaxUint64, 62, 0, 0, api.ErrRange},
		{0, 63, math.MaxInt64, 0, api.ErrRange},
		{0, 64, 0, 0, api.ErrRange},
		{0, 0, 0, 0, api.ErrRange},
		{0, -1, 0, 0, api.ErrRange},
		{0, math.MinInt, 0, 0, api.ErrRange},
	} {
		if got, err := Bits(c.word, c.bits, c.pivot); got != c.want || err != c.err {
			t.Error(i, c, got, err)
		}
	}
	if got, err := Unfold(uint32(0), math.MaxInt64); got != 0 || err != api.ErrOver {
		t.Error(got, err)
	}
	if got, err := Unfold(named8(255), math.MinInt64); got != 0 || err != api.ErrOver {
		t.Error(got, err)
	}
}

// P13.1: near is from half below a pivot on, to less than half above it.
func TestNear(t *testing.T) {
	list := numbers(60)
	for _, k := range counts() {
		for i, p := range list {
			near := []int64{p, math.MinInt64, math.MaxInt64, 0, list[(i+7)%len(list)]}
			if allows(k) {
				half := int64(1) << (k - 1)
				near = append(near, p-half-1, p-half, p-half+1, p+half-1, p+half, p+half+1) // some of them wrapped around
			}
			for _, n := range near {
				got, err := Near(n, p, k)
				if !allows(k) {
					if got || err != api.ErrRange {
						t.Fatal(n, p, k, got, err)
					}
					continue
				}
				if want := beside(big.NewInt(n), big.NewInt(p), k); got != want || err != nil {
					t.Fatal(n, p, k, got, want, err)
				}
			}
		}
	}
}

// P13.1: an era has 2^32 seconds, and era 0 begins at second 0.
func TestEras(t *testing.T) {
	for i, c := range []struct {
		t      int64
		era    int64
		second uint32
	}{
		{0, 0, 0},
		{1, 0, 1},
		{-1, -1, math.MaxUint32},
		{1<<32 - 1, 0, math.MaxUint32},
		{1 << 32, 1, 0},
		{-1 << 32, -1, 0},
		{-1<<32 - 1, -2, math.MaxUint32},
		{math.MinInt64, math.MinInt32, 0},
		{math.MinInt64 + 1, math.MinInt32, 1},
		{math.MaxInt64, math.MaxInt32, math.MaxUint32},
	} {
		if e, s := Split(c.t); e != c.era || s != c.second {
			t.Error(i, c, e, s)
		}
		if got, err := Join(c.era, c.second); got != c.t || err != nil {
			t.Error(i, c, got, err)
		}
	}
	for _, n := range numbers(5000) {
		e, s := Split(n)
		if plus(new(big.Int).Mul(big.NewInt(e), power(32)), big.NewInt(int64(s))).Cmp(big.NewInt(n)) != 0 {
			t.Fatal(n, e, s)
		}
	}
}

// P13.1: a second of an era that is out of range is refused.
func TestJoin(t *testing.T) {
	eras := append(numbers(200), math.MinInt32-1, math.MinInt32-2, math.MinInt32, math.MinInt32+1, math.MaxInt32-1, math.MaxInt32, math.MaxInt32+1)
	for _, e := range eras {
		for _, s := range []uint32{0, 1, 1 << 31, math.MaxUint32 - 1, math.MaxUint32} {
			want := plus(new(big.Int).Mul(big.NewInt(e), power(32)), big.NewInt(int64(s)))
			got, err := Join(e, s)
			if !want.IsInt64() {
				if got != 0 || err != api.ErrOver {
					t.Fatal(e, s, got, err)
				}
				continue
			}
			if got != want.Int64() || err != nil {
				t.Fatal(e, s, got, want, err)
			}
		}
	}
}

// P13.2: what is near comes back, and what isn't comes back as another number by a multiple of 2^bits.
func TestThereAndBack(t *testing.T) {
	list := numbers(100)
	for k := 1; k <= 62; k++ {
		for i, p := range list {
			half := int64(1) << (k - 1)
			for _, n := range []int64{p, p - half, p + half, p - half - 1, p + half - 1, p + 2*half, list[(i+k)%len(list)]} {
				backAgain(t, n, p, k)
			}
		}
	}
}

// backAgain folds a number and unfolds it by a pivot.
func backAgain(t *testing.T, n, p int64, k int) {
	t.Helper()
	w, err := FoldBits(n, k)
	if err != nil {
		t.Fatal(n, k, err)
	}
	is, err := Near(n, p, k)
	if err != nil {
		t.Fatal(n, p, k, err)
	}
	back, err := Bits(w, k, p)
	if is {
		if back != n || err != nil {
			t.Fatal(n, p, k, back, err)
		}
		return
	}
	if err == api.ErrOver { // then the number near the pivot is one of the multiples that don't exist here
		if _, fault := unfolded(w, k, p); fault != api.ErrOver {
			t.Fatal(n, p, k, err)
		}
		return
	}
	apart := plus(big.NewInt(back), new(big.Int).Neg(big.NewInt(n)))
	if err != nil || apart.Sign() == 0 || rest(apart, power(k)).Sign() != 0 {
		t.Fatal(n, p, k, back, err)
	}
	if is, err = Near(back, p, k); !is || err != nil {
		t.Fatal(n, p, k, back, is, err)
	}
}

// P13.2: words of types, too, come back.
func TestWordsAndBack(t *testing.T) {
	returns[uint8](t, 8)
	returns[uint16](t, 16)
	returns[named32](t, 32)
}

// returns checks that numbers near a pivot come back from words of one type, and that the next ones on either side don't.
func returns[T Word](t *testing.T, k int) {
	t.Helper()
	half := int64(1) << (k - 1)
	for _, p := range numbers(500) {
		if p < math.MinInt64+2*half || p > math.MaxInt64-2*half {
			continue
		}
		for _, d := range []int64{-half, 1 - half, -1, 0, 1, half - 2, half - 1} {
			if back, err := Unfold(Fold[T](p+d), p); back != p+d || err != nil {
				t.Fatal(p, d, back, err)
			}
		}
		if back, err := Unfold(Fold[T](p+half), p); back != p-half || err != nil {
			t.Fatal(p, back, err)
		}
		if back, err := Unfold(Fold[T](p-half-1), p); back != p+half-1 || err != nil {
			t.Fatal(p, back, err)
		}
	}
}
