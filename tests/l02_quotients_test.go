package tests

import (
	"fmt"
	"math/big"
	"testing"

	"loop.example/g01172/impl"
)

func TestDivideWholes(t *testing.T) {
	all := someNumbers()
	for _, m := range all {
		for _, n := range all {
			if n.Sign() != 0 {
				checkQuotient(t, m, n)
			}
		}
	}
}

// checkQuotient checks a quotient against that of math/big, and what makes it one: the product
// with the divisor plus the remainder is the dividend, and the remainder is small, with its sign.
func checkQuotient(t *testing.T, m, n *big.Int) {
	t.Helper()
	a, b := wholeOfBig(m), wholeOfBig(n)
	quotient, remainder, code := impl.DivideWholes(a, b)
	wantQuotient, wantRemainder := new(big.Int).QuoRem(m, n, new(big.Int))
	wantWhole(t, fmt.Sprintf("the quotient of %v and %v", m, n), quotient, code, wantQuotient)
	wantWhole(t, fmt.Sprintf("the remainder of %v and %v", m, n), remainder, code, wantRemainder)
	product, _ := impl.MultiplyWholes(quotient, b)
	dividend, _ := impl.AddWholes(product, remainder)
	if same, code := impl.CompareWholes(dividend, a); same != 0 || code != impl.ErrNone {
		t.Errorf("%v divided by %v does not come back: %v, %d", m, n, dividend, code)
	}
	if bigOf(remainder).CmpAbs(n) >= 0 || remainder.Sign != 0 && remainder.Sign != a.Sign {
		t.Errorf("the remainder of %v and %v is %v", m, n, remainder)
	}
}

// Each quotient of these is guessed by its first limbs, and some guesses are too great by 1 or 2.
func TestDivideWholesWithGuessesThatAreTooGreat(t *testing.T) {
	next := noise(77)
	for _, sizes := range []struct{ dividend, divisor int }{{3, 2}, {4, 2}, {4, 3}, {6, 3}, {10, 5}, {100, 2}, {100, 50}, {100, 99}} {
		for range 200 {
			m, n := patterned(next, sizes.dividend), patterned(next, sizes.divisor)
			if n.Sign() != 0 {
				checkQuotient(t, m, n)
			}
		}
	}
	for _, c := range []struct{ dividend, divisor []int64 }{
		{[]int64{0, greatestLimb, 1 << 23}, []int64{greatestLimb, 1 << 23}},
		{[]int64{0, 0, 1 << 23}, []int64{greatestLimb, 1 << 23}},
		{[]int64{3, 0, 1 << 23}, []int64{1, 0, 1 << 21}},
		{[]int64{0, 0, 0, 1}, []int64{greatestLimb, 1 << 23}},
		{[]int64{0, 0, greatestLimb - 1, 1 << 23}, []int64{greatestLimb, 0, 1 << 23}},
		{[]int64{greatestLimb, greatestLimb, greatestLimb}, []int64{greatestLimb, greatestLimb}},
		{[]int64{0, 0, 0, greatestLimb}, []int64{greatestLimb, greatestLimb}},
	} {
		checkQuotient(t, bigOf(impl.Whole{Sign: 1, Limbs: c.dividend}), bigOf(impl.Whole{Sign: 1, Limbs: c.divisor}))
	}
}

func TestDivideWholesExamples(t *testing.T) {
	for _, c := range []struct{ m, n, quotient, remainder int64 }{
		{-7, 2, -3, -1}, {7, 2, 3, 1}, {7, -2, -3, 1}, {-7, -2, 3, -1},
		{0, 5, 0, 0}, {0, -5, 0, 0}, {1, 2, 0, 1}, {-1, 2, 0, -1}, {6, 3, 2, 0}, {-6, 3, -2, 0}, {5, 5, 1, 0}, {5, -5, -1, 0},
	} {
		quotient, remainder, code := impl.DivideWholes(wholeOfBig(big.NewInt(c.m)), wholeOfBig(big.NewInt(c.n)))
		wantWhole(t, fmt.Sprintf("the quotient of %d and %d", c.m, c.n), quotient, code, big.NewInt(c.quotient))
		wantWhole(t, fmt.Sprintf("the remainder of %d and %d", c.m, c.n), remainder, code, big.NewInt(c.remainder))
	}
}

func TestShiftWhole(t *testing.T) {
	for _, n := range someNumbers() {
		for _, k := range []int64{0, 1, 2, 23, 24, 25, 47, 48, 49, 100, 1200, 2352, 2399, 2400, 2401, 4999, 5000} {
			up, code := impl.ShiftWhole(wholeOfBig(n), k)
			want := new(big.Int).Lsh(n, uint(k))
			wantWhole(t, fmt.Sprintf("ShiftWhole(%v, %d)", n, k), up, code, want)
			if code == impl.ErrNone {
				back, code := impl.ShiftWhole(up, -k)
				wantWhole(t, fmt.Sprintf("ShiftWhole(%v, %d) shifted back", n, k), back, code, n)
			}
			down, code := impl.ShiftWhole(wholeOfBig(n), -k)
			want = new(big.Int).Rsh(n, uint(k)) // that of math/big goes down, too
			wantWhole(t, fmt.Sprintf("ShiftWhole(%v, %d)", n, -k), down, code, want)
		}
	}
}

func TestShiftWholeOfNegativeNumbers(t *testing.T) {
	for _, c := range []struct{ n, k, want int64 }{
		{-5, -1, -3}, {-4, -1, -2}, {-1, -1, -1}, {-1, -5000, -1}, {1, -1, 0}, {1, -5000, 0}, {-8, -3, -1}, {-9, -3, -2}, {-7, -3, -1},
		{-1 << 24, -24, -1}, {-1<<24 - 1, -24, -2}, {-1 << 48, -24, -1 << 24}, {-1<<48 + 1, -24, -1 << 24}, {-5, 0, -5}, {0, 5000, 0}, {0, -5000, 0},
	} {
		a, code := impl.ShiftWhole(wholeOfBig(big.NewInt(c.n)), c.k)
		wantWhole(t, fmt.Sprintf("ShiftWhole(%d, %d)", c.n, c.k), a, code, big.NewInt(c.want))
	}
}

func TestShiftWholeAtTheEndsOfItsRange(t *testing.T) {
	for _, n := range []int64{0, 1, -1, 12345} {
		for _, k := range append([]int64{5001, -5001, 5000000}, extremes...) {
			a, code := impl.ShiftWhole(wholeOfBig(big.NewInt(n)), k)
			wantNoWhole(t, fmt.Sprintf("ShiftWhole(%d, %d)", n, k), a, code, impl.ErrRange)
		}
	}
	greatestWhole := wholeOfBig(power(2400, -1))
	a, code := impl.ShiftWhole(greatestWhole, 1)
	wantNoWhole(t, "ShiftWhole of the greatest whole number by 1", a, code, impl.ErrLimit)
	a, code = impl.ShiftWhole(greatestWhole, 0)
	wantWhole(t, "ShiftWhole of the greatest whole number by 0", a, code, power(2400, -1))
	a, code = impl.ShiftWhole(wholeOfBig(big.NewInt(-1)), 2399)
	wantWhole(t, "ShiftWhole(-1, 2399)", a, code, new(big.Int).Neg(power(2399, 0)))
	a, code = impl.ShiftWhole(wholeOfBig(big.NewInt(-1)), 2400)
	wantNoWhole(t, "ShiftWhole(-1, 2400)", a, code, impl.ErrLimit)
}

func TestRootOfWhole(t *testing.T) {
	all := someNumbers()
	for n := int64(0); n < 300; n++ {
		all = append(all, big.NewInt(n))
	}
	for _, n := range someNumbers() {
		square := new(big.Int).Mul(n, n)
		if n.Sign() > 0 && square.BitLen() <= 2400 {
			all = append(all, square, new(big.Int).Add(square, big.NewInt(1)), new(big.Int).Sub(square, big.NewInt(1)))
		}
	}
	for _, n := range all {
		if n.Sign() >= 0 {
			checkRoot(t, n)
		}
	}
}

// checkRoot checks a root against that of math/big, and that its square and the next one are
// around the number.
func checkRoot(t *testing.T, n *big.Int) {
	t.Helper()
	root, code := impl.RootOfWhole(wholeOfBig(n))
	wantWhole(t, fmt.Sprintf("RootOfWhole(%v)", n), root, code, new(big.Int).Sqrt(n))
	next := new(big.Int).Add(bigOf(root), big.NewInt(1))
	if square := new(big.Int).Mul(bigOf(root), bigOf(root)); square.Cmp(n) > 0 {
		t.Errorf("the square of the root of %v is greater", n)
	}
	if next.Mul(next, next).Cmp(n) <= 0 {
		t.Errorf("the root of %v is not the greatest", n)
	}
}
