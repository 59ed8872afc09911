package tests

import (
	"math"
	"math/big"
	"slices"
	"testing"

	"loop.example/g01172/impl"
)

// modes are the five modes of rounding.
var modes = []int64{impl.Nearest, impl.Down, impl.Up, impl.ToZero, impl.Outward}

// noModes are integers that are none of them.
var noModes = append([]int64{-1, 5, 6}, extremes...)

// scaled returns n times 2^e.
func scaled(n *big.Int, e int64) *big.Rat {
	size := new(big.Rat).SetInt(power(uint(max(e, -e)), 0))
	if e < 0 {
		size.Inv(size)
	}
	return size.Mul(size, new(big.Rat).SetInt(n))
}

// step returns 2^e.
func step(e int64) *big.Rat {
	return scaled(big.NewInt(1), e)
}

// ratOf returns the value of an exact number.
func ratOf(d impl.Dyadic) *big.Rat {
	return scaled(bigOf(d.Whole), d.Exponent)
}

// dyadicOf returns a number with a power of two as denominator in the form of an exact number,
// which may be too large.
func dyadicOf(r *big.Rat) impl.Dyadic {
	if r.Sign() == 0 {
		return impl.Dyadic{}
	}
	zeros := r.Num().TrailingZeroBits()
	odd := new(big.Int).Rsh(new(big.Int).Abs(r.Num()), zeros)
	if r.Sign() < 0 {
		odd.Neg(odd)
	}
	return impl.Dyadic{Whole: wholeOfBig(odd), Exponent: int64(zeros) - int64(r.Denom().BitLen()-1)}
}

// multipleBelow returns the greatest multiple of 2^-k that is not greater than r.
func multipleBelow(r *big.Rat, k int64) *big.Rat {
	steps := new(big.Rat).Mul(r, step(k))
	// Div rounds down, for a denominator is positive.
	return scaled(new(big.Int).Div(steps.Num(), steps.Denom()), -k)
}

func isTooLarge(d impl.Dyadic) bool {
	return len(d.Whole.Limbs) > 100 || d.Exponent < -3000 || d.Exponent > 3000
}

func sameDyadics(c, d impl.Dyadic) bool {
	return c.Exponent == d.Exponent && c.Whole.Sign == d.Whole.Sign && slices.Equal(c.Whole.Limbs, d.Whole.Limbs)
}

// wantDyadic checks a result: its value in its form, its code, and that it is the zero value
// beside an error. A value that is too large stands for ErrLimit.
func wantDyadic(t *testing.T, call string, d impl.Dyadic, code int64, want *big.Rat) {
	t.Helper()
	wanted := dyadicOf(want)
	if isTooLarge(wanted) {
		wantNoDyadic(t, call, d, code, impl.ErrLimit)
		return
	}
	if code != impl.ErrNone || !sameDyadics(d, wanted) {
		t.Errorf("%s = %v, %d, want %v, 0", call, d, code, wanted)
	}
}

func wantNoDyadic(t *testing.T, call string, d impl.Dyadic, code, wantCode int64) {
	t.Helper()
	if !sameDyadics(d, impl.Dyadic{}) || code != wantCode {
		t.Errorf("%s = %v, %d, want a zero value and %d", call, d, code, wantCode)
	}
}

// someDyadics returns exact numbers of either sign, with wholes of up to 100 limbs and exponents
// up to both ends of their range, and 0.
func someDyadics() []impl.Dyadic {
	next := noise(3)
	wholes := []*big.Int{
		big.NewInt(1), big.NewInt(1), big.NewInt(3), big.NewInt(5), power(24, -1), power(24, 1), power(25, -1), power(26, 3),
		power(150, 1), power(400, -1), power(500, -1), power(1200, 1), power(2399, 1), power(2400, -1),
	}
	for _, limbs := range []int{2, 3, 10, 100} {
		n := patterned(next, limbs)
		wholes = append(wholes, n.SetBit(n, 0, 1))
	}
	exponents := []int64{
		0, -1, 1, -3000, 3000, -2999, 2999, -149, -150, -151, -173, -126, -400, -500, -2400, -2500, 23, 100, 104, 127, 128, 399, 400, 499, 500,
	}
	all := []impl.Dyadic{{}}
	for i, n := range wholes {
		for j := range 5 {
			d := impl.Dyadic{Whole: wholeOfBig(n), Exponent: exponents[(5*i+j)%len(exponents)]}
			all = append(all, d, opposite(d))
		}
	}
	return all
}

func opposite(d impl.Dyadic) impl.Dyadic {
	return impl.Dyadic{Whole: impl.Whole{Sign: -d.Whole.Sign, Limbs: d.Whole.Limbs}, Exponent: d.Exponent}
}

// badDyadics returns what is no exact number: with something that is no whole number, with an
// even one, or with an exponent outside its range.
func badDyadics() []impl.Dyadic {
	one, zero := impl.Whole{Sign: 1, Limbs: []int64{1}}, impl.Whole{}
	var all []impl.Dyadic
	for _, a := range badWholes() {
		all = append(all, impl.Dyadic{Whole: a}, impl.Dyadic{Whole: a, Exponent: -5})
	}
	for _, n := range []*big.Int{big.NewInt(2), big.NewInt(-2), big.NewInt(4), power(24, 0), power(24, 2), power(2399, 0), power(2400, -2)} {
		all = append(all, impl.Dyadic{Whole: wholeOfBig(n)}, impl.Dyadic{Whole: wholeOfBig(n), Exponent: 7})
	}
	for _, e := range append([]int64{-3001, 3001}, extremes...) {
		all = append(all, impl.Dyadic{Whole: one, Exponent: e}, impl.Dyadic{Whole: zero, Exponent: e})
	}
	for _, e := range []int64{-3000, -1, 1, 3000} {
		all = append(all, impl.Dyadic{Whole: zero, Exponent: e})
	}
	return all
}

// enclosed returns the greatest float that is not greater than r, and the least one that is not
// less; they may be infinite. Zeros have the sign of r.
func enclosed(r *big.Rat) (float32, float32) {
	if r.Sign() < 0 {
		low, high := enclosed(new(big.Rat).Neg(r))
		return -high, -low
	}
	near, _ := r.Float32()
	switch compareWithFloat(r, near) {
	case -1:
		return math.Nextafter32(near, 0), near
	case 1:
		return near, math.Nextafter32(near, infinite)
	}
	return near, near
}

// compareWithFloat compares a number with a float, which may be infinite.
func compareWithFloat(r *big.Rat, x float32) int {
	if math.IsInf(float64(x), 0) {
		return -int(math.Copysign(1, float64(x)))
	}
	return r.Cmp(new(big.Rat).SetFloat64(float64(x)))
}

// roundedRat returns what chapter 3 says of rounding, with the nearest float of math/big. What that
// tells of exactness does not hold for numbers below half of the least float.
func roundedRat(r *big.Rat, mode int64) (float32, int64) {
	near, _ := r.Float32()
	if compareWithFloat(r, near) == 0 {
		return near, 0
	}
	low, high := enclosed(r)
	x := near
	switch {
	case mode == impl.Down || mode == impl.ToZero && r.Sign() > 0 || mode == impl.Outward && r.Sign() < 0:
		x = low
	case mode != impl.Nearest:
		x = high
	}
	flags := int64(impl.FlagInexact)
	size := new(big.Rat).Abs(r)
	if size.Cmp(step(-126)) < 0 {
		flags += impl.FlagTiny
	}
	if size.Cmp(step(128)) >= 0 || math.IsInf(float64(x), 0) {
		flags += impl.FlagOverflow
	}
	return x, flags
}
