// Package num is layer 1: whole numbers that don't wrap around. See shared/doc/01-num.md.
package num

import (
	"math"
	"math/bits"

	"horologe/api"
)

// Add is a sum.
func Add(a, b int64) (int64, error) {
	if b > 0 && a > math.MaxInt64-b || b < 0 && a < math.MinInt64-b {
		return 0, api.ErrOver
	}
	return a + b, nil
}

// Sub is a difference.
func Sub(a, b int64) (int64, error) {
	if b > 0 && a < math.MinInt64+b || b < 0 && a > math.MaxInt64+b {
		return 0, api.ErrOver
	}
	return a - b, nil
}

// Mul is a product.
func Mul(a, b int64) (int64, error) {
	switch b {
	case 0:
		return 0, nil
	case -1: // the one factor for which the check below wraps around as well
		return Neg(a)
	}
	product := a * b
	if product/b != a {
		return 0, api.ErrOver
	}
	return product, nil
}

// Neg is a number with the other sign.
func Neg(a int64) (int64, error) {
	if a == math.MinInt64 {
		return 0, api.ErrOver
	}
	return -a, nil
}

// Div is a quotient.
func Div(a, b int64) (int64, error) {
	switch b {
	case 0:
		return 0, api.ErrRange
	case -1: // the one divisor whose quotient may be out of range
		return Neg(a)
	}
	quotient := a / b
	if a%b != 0 && a < 0 != (b < 0) { // Go rounds towards 0
		quotient--
	}
	return quotient, nil
}

// Mod is a rest.
func Mod(a, b int64) (int64, error) {
	if b == 0 {
		return 0, api.ErrRange
	}
	rest := a % b
	if rest != 0 && rest < 0 != (b < 0) { // Go's rest has the sign of a
		rest += b
	}
	return rest, nil
}

// Split is a quotient and a rest.
func Split(a, b int64) (int64, int64, error) {
	if b < 1 {
		return 0, 0, api.ErrRange
	}
	quotient, err := Div(a, b)
	if err != nil {
		return 0, 0, err
	}
	rest, err := Mod(a, b)
	if err != nil {
		return 0, 0, err
	}
	return quotient, rest, nil
}

// Sum is numbers added.
func Sum(list ...int64) (int64, error) {
	var total int64
	for _, n := range list {
		next, err := Add(total, n)
		if err != nil {
			return 0, err
		}
		total = next
	}
	return total, nil
}

// Scale is a product, divided.
func Scale(a, b, by int64) (int64, error) {
	if a < 0 || b < 0 || by < 1 {
		return 0, api.ErrRange
	}
	high, low := bits.Mul64(uint64(a), uint64(b))
	if high >= uint64(by) { // the quotient has more than 64 bits, and Div64 would panic
		return 0, api.ErrOver
	}
	quotient, _ := bits.Div64(high, low, uint64(by))
	if quotient > math.MaxInt64 {
		return 0, api.ErrOver
	}
	return int64(quotient), nil
}

// Within tells whether a number is between two.
func Within(x, low, high int64) bool {
	return low <= x && x <= high
}
