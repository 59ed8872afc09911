package tests

import (
	"math"
	"math/big"
	"slices"
	"testing"

	"loop.example/g01172/impl"
)

const greatestLimb = 1<<24 - 1

// bigOf returns the value of a whole number.
func bigOf(a impl.Whole) *big.Int {
	sum := new(big.Int)
	for i := len(a.Limbs) - 1; i >= 0; i-- {
		sum.Lsh(sum, 24)
		sum.Add(sum, big.NewInt(a.Limbs[i]))
	}
	return sum.Mul(sum, big.NewInt(a.Sign))
}

// wholeOfBig returns a number as a Whole, which may have more limbs than a whole number.
func wholeOfBig(n *big.Int) impl.Whole {
	a := impl.Whole{Sign: int64(n.Sign())}
	limb := new(big.Int)
	for rest := new(big.Int).Abs(n); rest.Sign() > 0; rest.Rsh(rest, 24) {
		a.Limbs = append(a.Limbs, limb.And(rest, big.NewInt(greatestLimb)).Int64())
	}
	return a
}

// power returns 2^k plus a number d.
func power(k uint, d int64) *big.Int {
	n := new(big.Int).Lsh(big.NewInt(1), k)
	return n.Add(n, big.NewInt(d))
}

// noise returns numbers in a fixed disorder.
func noise(seed uint64) func() uint64 {
	return func() uint64 {
		seed ^= seed << 13
		seed ^= seed >> 7
		seed ^= seed << 17
		return seed
	}
}

// patterned returns a number with limbs at the ends of their range and some others.
func patterned(next func() uint64, limbs int) *big.Int {
	kinds := []int64{0, 0, 1, 1 << 23, greatestLimb - 1, greatestLimb, greatestLimb, -1, -1}
	a := impl.Whole{Sign: 1}
	for range limbs {
		limb := kinds[next()%uint64(len(kinds))]
		if limb < 0 {
			limb = int64(next() % (greatestLimb + 1))
		}
		a.Limbs = append(a.Limbs, limb)
	}
	return bigOf(a)
}

// someNumbers returns numbers of either sign and of up to 100 limbs, ascending in nothing.
func someNumbers() []*big.Int {
	all := []*big.Int{new(big.Int)}
	for _, k := range []uint{0, 1, 2, 23, 24, 25, 47, 48, 62, 63, 64, 71, 72, 96, 1199, 1200, 2375, 2376, 2399} {
		all = append(all, power(k, -1), power(k, 0), power(k, 1))
	}
	all = append(all, power(2400, -1), power(2400, -2))
	next := noise(2)
	for _, limbs := range []int{1, 1, 2, 2, 3, 3, 4, 5, 6, 7, 10, 20, 49, 50, 51, 99, 100, 100} {
		all = append(all, patterned(next, limbs))
	}
	for _, n := range slices.Clone(all) {
		all = append(all, new(big.Int).Neg(n))
	}
	return all
}

// badWholes returns what is no whole number, a kind each.
func badWholes() []impl.Whole {
	tooMany := make([]int64, 101)
	tooMany[100] = 1
	huge := make([]int64, 1000)
	return []impl.Whole{
		{Sign: 2, Limbs: []int64{1}},
		{Sign: -2, Limbs: []int64{1}},
		{Sign: math.MaxInt64, Limbs: []int64{1}},
		{Sign: math.MinInt64, Limbs: []int64{1}},
		{Sign: 2},
		{Sign: 1},
		{Sign: -1},
		{Sign: 1, Limbs: []int64{}},
		{Sign: 0, Limbs: []int64{1}},
		{Sign: 0, Limbs: []int64{0}},
		{Sign: 1, Limbs: []int64{0}},
		{Sign: 1, Limbs: []int64{5, 0}},
		{Sign: -1, Limbs: []int64{0, 0}},
		{Sign: 1, Limbs: []int64{1 << 24}},
		{Sign: 1, Limbs: []int64{1 << 24, 1}},
		{Sign: 1, Limbs: []int64{-1, 1}},
		{Sign: 1, Limbs: []int64{1, -1}},
		{Sign: 1, Limbs: []int64{1, math.MaxInt64, 1}},
		{Sign: 1, Limbs: []int64{1, math.MinInt64, 1}},
		{Sign: 1, Limbs: tooMany},
		{Sign: -1, Limbs: tooMany},
		{Sign: 0, Limbs: huge},
	}
}

// wantWhole checks a result: its value, its form, that its code is right, and that it is the zero
// value beside an error. A value that is too large stands for ErrLimit.
func wantWhole(t *testing.T, call string, a impl.Whole, code int64, want *big.Int) {
	t.Helper()
	if want.BitLen() > 2400 {
		wantNoWhole(t, call, a, code, impl.ErrLimit)
		return
	}
	if code != impl.ErrNone || !impl.IsWhole(a) || bigOf(a).Cmp(want) != 0 {
		t.Errorf("%s = %v, %d, want %v, 0", call, a, code, wholeOfBig(want))
	}
}

func wantNoWhole(t *testing.T, call string, a impl.Whole, code, wantCode int64) {
	t.Helper()
	if a.Sign != 0 || len(a.Limbs) != 0 || code != wantCode {
		t.Errorf("%s = %v, %d, want a zero value and %d", call, a, code, wantCode)
	}
}
