package num

import (
	"math"
	"math/big"
	"slices"
	"testing"

	"horologe/api"
)

const (
	least = math.MinInt64
	most  = math.MaxInt64
)

// edges are numbers near which results leave the range, lose bits, or change their sign.
func edges() []int64 {
	list := []int64{least, least + 1, least + 2, most, most - 1, most - 2, 0, 1, -1, 2, -2, 3, -3, 7, -7, 10, -10, 86400, -86400, api.Billion, -api.Billion, 3037000499, 3037000500, -3037000500}
	for shift := 4; shift < 63; shift += 7 {
		power := int64(1) << shift
		list = append(list, power, power-1, power+1, -power, -power-1, -power+1)
	}
	for _, shift := range []int{31, 32, 61, 62} {
		power := int64(1) << shift
		list = append(list, power, power-1, power+1, -power, -power-1, -power+1)
	}
	slices.Sort(list)
	return slices.Compact(list)
}

// mixed is a sequence of numbers of all sizes, the same in each run.
func mixed(many int) []int64 {
	var list []int64
	state := uint64(0x9e3779b97f4a7c15)
	for i := range many {
		state ^= state << 13
		state ^= state >> 7
		state ^= state << 17
		list = append(list, int64(state)>>(i%64))
	}
	return list
}

// pairs yields the edges with each other, and then mixed numbers with each other.
func pairs(yield func(a, b int64) bool) {
	for _, a := range edges() {
		for _, b := range edges() {
			if !yield(a, b) {
				return
			}
		}
	}
	first, second := mixed(40000), mixed(40007)
	for i, a := range first {
		if !yield(a, second[len(second)-1-i]) {
			return
		}
	}
}

func wide(n int64) *big.Int { return big.NewInt(n) }

// floor is the quotient and the remainder of the chapter, for any b but 0.
func floor(a, b *big.Int) (*big.Int, *big.Int) {
	q, r := new(big.Int).QuoRem(a, b, new(big.Int))
	if r.Sign() != 0 && r.Sign() != b.Sign() {
		q.Sub(q, big.NewInt(1))
		r.Add(r, b)
	}
	return q, r
}

// check holds a result against its value without bounds; nil stands for no value, which has the error other.
func check(t *testing.T, name string, args []int64, got int64, err error, want *big.Int, other error) {
	t.Helper()
	switch {
	case want == nil:
		if got != 0 || err != other {
			t.Errorf("%s%v: %d, %v; want 0, %v", name, args, got, err, other)
		}
	case !want.IsInt64():
		if got != 0 || err != api.ErrOver {
			t.Errorf("%s%v: %d, %v; want 0, ErrOver", name, args, got, err)
		}
	case got != want.Int64() || err != nil:
		t.Errorf("%s%v: %d, %v; want %d", name, args, got, err, want)
	}
}

// P1.1
func TestAddSubMulNeg(t *testing.T) {
	for a, b := range pairs {
		args := []int64{a, b}
		got, err := Add(a, b)
		check(t, "Add", args, got, err, new(big.Int).Add(wide(a), wide(b)), nil)
		got, err = Sub(a, b)
		check(t, "Sub", args, got, err, new(big.Int).Sub(wide(a), wide(b)), nil)
		got, err = Mul(a, b)
		check(t, "Mul", args, got, err, new(big.Int).Mul(wide(a), wide(b)), nil)
		got, err = Neg(a)
		check(t, "Neg", args[:1], got, err, new(big.Int).Neg(wide(a)), nil)
	}
}

// P1.1
func TestDivModSplit(t *testing.T) {
	for a, b := range pairs {
		args := []int64{a, b}
		var q, r *big.Int
		if b != 0 {
			q, r = floor(wide(a), wide(b))
		}
		got, err := Div(a, b)
		check(t, "Div", args, got, err, q, api.ErrRange)
		got, err = Mod(a, b)
		check(t, "Mod", args, got, err, r, api.ErrRange)
		if b < 1 {
			q, r = nil, nil
		}
		first, second, err := Split(a, b)
		check(t, "Split, the quotient: ", args, first, err, q, api.ErrRange)
		check(t, "Split, the remainder: ", args, second, err, r, api.ErrRange)
	}
}

// P1.1
func TestQuotientsByHand(t *testing.T) {
	for _, c := range []struct{ a, b, q, r int64 }{
		{7, 2, 3, 1},
		{-7, 2, -4, 1},
		{7, -2, -4, -1},
		{-7, -2, 3, -1},
		{6, 3, 2, 0},
		{-6, 3, -2, 0},
		{6, -3, -2, 0},
		{0, -5, 0, 0},
		{-1, 86400, -1, 86399},
		{-1, most, -1, most - 1},
		{1, least, -1, least + 1},
		{-1, least, 0, -1},
		{least, 1, least, 0},
		{least, least, 1, 0},
		{least, most, -2, most - 1},
		{most, least, -1, -1},
		{most, -1, -most, 0},
	} {
		q, err := Div(c.a, c.b)
		if q != c.q || err != nil {
			t.Errorf("Div(%d, %d): %d, %v; want %d", c.a, c.b, q, err, c.q)
		}
		r, err := Mod(c.a, c.b)
		if r != c.r || err != nil {
			t.Errorf("Mod(%d, %d): %d, %v; want %d", c.a, c.b, r, err, c.r)
		}
		if c.b < 1 {
			continue
		}
		if q, r, err := Split(c.a, c.b); q != c.q || r != c.r || err != nil {
			t.Errorf("Split(%d, %d): %d, %d, %v; want %d, %d", c.a, c.b, q, r, err, c.q, c.r)
		}
	}
}

// P1.1
func TestErrorsByHand(t *testing.T) {
	for _, c := range []struct {
		name string
		call func(a, b int64) (int64, error)
		a, b int64
		want error
	}{
		{"Add", Add, most, 1, api.ErrOver},
		{"Add", Add, least, -1, api.ErrOver},
		{"Add", Add, least, least, api.ErrOver},
		{"Sub", Sub, least, 1, api.ErrOver},
		{"Sub", Sub, most, -1, api.ErrOver},
		{"Sub", Sub, 0, least, api.ErrOver},
		{"Mul", Mul, least, -1, api.ErrOver},
		{"Mul", Mul, -1, least, api.ErrOver},
		{"Mul", Mul, 1 << 31, 1 << 32, api.ErrOver},
		{"Mul", Mul, 1 << 32, 1 << 32, api.ErrOver},
		{"Div", Div, 0, 0, api.ErrRange},
		{"Div", Div, least, 0, api.ErrRange},
		{"Div", Div, least, -1, api.ErrOver},
		{"Mod", Mod, 0, 0, api.ErrRange},
		{"Mod", Mod, least, 0, api.ErrRange},
		{"Mod", Mod, least, -1, nil},
	} {
		if got, err := c.call(c.a, c.b); got != 0 || err != c.want {
			t.Errorf("%s(%d, %d): %d, %v; want 0, %v", c.name, c.a, c.b, got, err, c.want)
		}
	}
	if got, err := Neg(least); got != 0 || err != api.ErrOver {
		t.Errorf("Neg of the smallest number: %d, %v", got, err)
	}
	for _, b := range []int64{0, -1, -86400, least} {
		if q, r, err := Split(7, b); q != 0 || r != 0 || err != api.ErrRange {
			t.Errorf("Split(7, %d): %d, %d, %v; want 0, 0, ErrRange", b, q, r, err)
		}
	}
}

// P1.1
func TestSum(t *testing.T) {
	for _, c := range []struct {
		list []int64
		x    int64
		want error
	}{
		{nil, 0, nil},
		{[]int64{}, 0, nil},
		{[]int64{-5}, -5, nil},
		{[]int64{1, 2, 3, -10}, -4, nil},
		{[]int64{most}, most, nil},
		{[]int64{least}, least, nil},
		{[]int64{most, least, 1}, 0, nil},
		{[]int64{most, -5, 5}, most, nil},
		{[]int64{least, 5, -5}, least, nil},
		{[]int64{most, 1, -5}, 0, api.ErrOver},
		{[]int64{5, most, -5}, 0, api.ErrOver},
		{[]int64{least, -1, 5}, 0, api.ErrOver},
		{[]int64{1, 2, most}, 0, api.ErrOver},
	} {
		before := slices.Clone(c.list)
		if x, err := Sum(c.list...); x != c.x || err != c.want {
			t.Errorf("Sum(%v): %d, %v; want %d, %v", c.list, x, err, c.x, c.want)
		}
		if !slices.Equal(before, c.list) {
			t.Errorf("Sum changed %v to %v", before, c.list)
		}
	}
}

// P1.1
func TestSumOfMany(t *testing.T) {
	numbers := mixed(4000)
	for at := range len(numbers) - 9 {
		list := numbers[at : at+at%10]
		total := new(big.Int)
		for _, n := range list {
			total.Add(total, wide(n))
			if !total.IsInt64() {
				break
			}
		}
		got, err := Sum(list...)
		check(t, "Sum", list, got, err, total, nil)
	}
}

// P1.1
func TestScale(t *testing.T) {
	divisors := append(mixed(60), edges()...)
	for i, by := range divisors {
		for a, b := range pairs {
			if i > 3 && (a < 0 || b < 0) { // their answers don't depend on the divisor
				continue
			}
			var want *big.Int
			if a >= 0 && b >= 0 && by >= 1 {
				want, _ = floor(new(big.Int).Mul(wide(a), wide(b)), wide(by))
			}
			got, err := Scale(a, b, by)
			check(t, "Scale", []int64{a, b, by}, got, err, want, api.ErrRange)
		}
	}
}

// P1.1
func TestScaleByHand(t *testing.T) {
	for _, c := range []struct {
		a, b, by, x int64
		want        error
	}{
		{7, 3, 2, 10, nil},
		{0, most, 1, 0, nil},
		{most, 0, 1, 0, nil},
		{1, 1, most, 0, nil},
		{999999999, 1 << 32, api.Billion, 4294967291, nil},
		{1 << 62, 4, 8, 1 << 61, nil},
		{most, most, most, most, nil},
		{most, 2, 2, most, nil},
		{most, most, most - 1, 0, api.ErrOver}, // 2^63 and a bit: 64 bits, but no number
		{1 << 62, 2, 1, 0, api.ErrOver},
		{1 << 62, 4, 1, 0, api.ErrOver}, // 2^64
		{most, most, 1, 0, api.ErrOver},
		{-1, 1, 1, 0, api.ErrRange},
		{1, -1, 1, 0, api.ErrRange},
		{-1, -1, 1, 0, api.ErrRange},
		{least, 0, 1, 0, api.ErrRange},
		{1, 1, 0, 0, api.ErrRange},
		{1, 1, -1, 0, api.ErrRange},
		{1, 1, least, 0, api.ErrRange},
		{most, most, 0, 0, api.ErrRange}, // the product is no number either, but the divisor comes first
	} {
		if x, err := Scale(c.a, c.b, c.by); x != c.x || err != c.want {
			t.Errorf("Scale(%d, %d, %d): %d, %v; want %d, %v", c.a, c.b, c.by, x, err, c.x, c.want)
		}
	}
}

// P1.1
func TestWithin(t *testing.T) {
	for _, c := range []struct {
		x, low, high int64
		want         bool
	}{
		{3, 3, 3, true},
		{3, 3, 9, true},
		{9, 3, 9, true},
		{5, 3, 9, true},
		{2, 3, 9, false},
		{10, 3, 9, false},
		{5, 9, 3, false},
		{9, 9, 3, false},
		{3, 9, 3, false},
		{-5, -9, -3, true},
		{5, -9, -3, false},
		{least, least, most, true},
		{most, least, most, true},
		{least, least, least, true},
		{most, most, most, true},
		{most, least, least, false},
		{least, most, most, false},
		{0, most, least, false},
	} {
		if got := Within(c.x, c.low, c.high); got != c.want {
			t.Errorf("Within(%d, %d, %d): %v", c.x, c.low, c.high, got)
		}
	}
}

// P1.2
func TestDivisionRestores(t *testing.T) {
	for a, b := range pairs {
		q, err := Div(a, b)
		if err != nil {
			continue
		}
		r, err := Mod(a, b)
		if err != nil {
			t.Fatalf("Mod(%d, %d): %v, but Div has an answer", a, b, err)
		}
		if b*q+r != a { // whatever the product wraps around to, the sum wraps back
			t.Errorf("%d by %d: %d and %d", a, b, q, r)
		}
		if r != 0 && (r < 0) != (b < 0) || b > 0 && r >= b || b < 0 && r <= b {
			t.Errorf("the remainder of %d by %d: %d", a, b, r)
		}
	}
}

// same tells whether two ways to one number agree, as far as both have an answer.
func same(x int64, err error, y int64, other error) bool {
	return err != nil || other != nil || x == y
}

// P1.2
func TestLawsOfTwo(t *testing.T) {
	for a, b := range pairs {
		for _, c := range []struct {
			name string
			call func(a, b int64) (int64, error)
		}{{"Add", Add}, {"Mul", Mul}} {
			x, err := c.call(a, b)
			y, other := c.call(b, a)
			if x != y || err != other {
				t.Errorf("%s(%d, %d): %d, %v, but the other way round %d, %v", c.name, a, b, x, err, y, other)
			}
		}
		if d, err := Sub(a, b); err == nil {
			if back, err := Add(d, b); back != a || err != nil {
				t.Errorf("%d - %d + %d: %d, %v", a, b, b, back, err)
			}
			if other, err := Sub(b, a); err == nil && other != -d {
				t.Errorf("%d - %d: %d, but the other way round %d", a, b, d, other)
			}
		}
		if s, err := Add(a, b); err == nil {
			if back, err := Sub(s, b); back != a || err != nil {
				t.Errorf("%d + %d - %d: %d, %v", a, b, b, back, err)
			}
		}
		if p, err := Mul(a, b); err == nil && b != 0 {
			if back, err := Div(p, b); err == nil && back != a {
				t.Errorf("%d * %d / %d: %d", a, b, b, back)
			}
		}
	}
}

// P1.2
func TestNeutralNumbers(t *testing.T) {
	for _, a := range append(mixed(500), edges()...) {
		for _, c := range []struct {
			name string
			call func(a, b int64) (int64, error)
			b, x int64
		}{{"Add", Add, 0, a}, {"Sub", Sub, 0, a}, {"Sub", Sub, a, 0}, {"Mul", Mul, 1, a}, {"Mul", Mul, 0, 0}, {"Div", Div, 1, a}} {
			if x, err := c.call(a, c.b); x != c.x || err != nil {
				t.Errorf("%s(%d, %d): %d, %v; want %d", c.name, a, c.b, x, err, c.x)
			}
		}
	}
}

// P1.2
func TestLawsOfThree(t *testing.T) {
	list := mixed(3000)
	for i := 2; i < len(list); i++ {
		a, b, c := list[i-2], list[i-1], list[i]
		chain := func(first, second func(a, b int64) (int64, error), a, b, c int64) (int64, error) {
			x, err := first(a, b)
			if err != nil {
				return 0, err
			}
			return second(x, c)
		}
		x, err := chain(Add, Add, a, b, c)
		y, other := chain(Add, Add, b, c, a)
		if !same(x, err, y, other) {
			t.Errorf("sums of %d, %d, %d: %d and %d", a, b, c, x, y)
		}
		x, err = chain(Mul, Mul, a, b, c)
		y, other = chain(Mul, Mul, b, c, a)
		if !same(x, err, y, other) {
			t.Errorf("products of %d, %d, %d: %d and %d", a, b, c, x, y)
		}
		x, err = chain(Add, Mul, a, b, c)
		left, bad := Mul(a, c)
		right, worse := Mul(b, c)
		if bad != nil || worse != nil {
			continue
		}
		y, other = Add(left, right)
		if !same(x, err, y, other) {
			t.Errorf("(%d + %d) * %d: %d and %d", a, b, c, x, y)
		}
	}
}

// P1: neither earlier calls nor their errors show in a later answer.
func TestOrderDoesNotMatter(t *testing.T) {
	for range 3 {
		if x, err := Div(-7, 2); x != -4 || err != nil {
			t.Error(x, err)
		}
		if _, err := Div(least, -1); err != api.ErrOver {
			t.Error(err)
		}
		if _, err := Sum(most, 1); err != api.ErrOver {
			t.Error(err)
		}
		if x, err := Mod(-7, 2); x != 1 || err != nil {
			t.Error(x, err)
		}
	}
}
