package tests

import (
	"fmt"
	"math/big"
	"testing"

	"loop.example/g01172/impl"
)

// isDivisible tells whether QuotientBelow has a quotient of these values.
func isDivisible(c, d *big.Rat) bool {
	return new(big.Rat).Abs(c).Cmp(step(500)) < 0 && new(big.Rat).Abs(d).Cmp(step(-500)) >= 0
}

func TestQuotientBelow(t *testing.T) {
	all := someDyadics()
	for _, c := range all {
		x := ratOf(c)
		for _, d := range all {
			y := ratOf(d)
			for _, k := range []int64{0, 3, 150, 499, 500} {
				call := fmt.Sprintf("QuotientBelow(%v, %v, %d)", c, d, k)
				got, code := impl.QuotientBelow(c, d, k)
				if !isDivisible(x, y) {
					wantNoDyadic(t, call, got, code, impl.ErrState)
					continue
				}
				quotient := new(big.Rat).Quo(x, y)
				wantDyadic(t, call, got, code, multipleBelow(quotient, k))
				if rest := new(big.Rat).Sub(quotient, ratOf(got)); rest.Sign() < 0 || rest.Cmp(step(-k)) >= 0 {
					t.Errorf("%s = %v, which is not next to the quotient", call, got)
				}
			}
		}
	}
}

func TestQuotientBelowExamples(t *testing.T) {
	for _, c := range []struct {
		c, d, k        int64
		whole, wantExp int64
	}{
		{1, 3, 0, 0, 0}, {1, 3, 2, 1, -2}, {-1, 3, 0, -1, 0}, {1, -3, 0, -1, 0}, {-1, -3, 0, 0, 0}, {-1, 3, 2, -1, -1},
		{7, 2, 0, 3, 0}, {7, 2, 1, 7, -1}, {-7, 2, 0, -1, 2}, {-7, 2, 1, -7, -1}, {-6, 3, 0, -1, 1}, {0, 5, 9, 0, 0}, {0, -5, 0, 0, 0}, {5, 5, 0, 1, 0}, {5, -5, 500, -1, 0},
	} {
		got, code := impl.QuotientBelow(dyadic(t, big.NewInt(c.c), 0), dyadic(t, big.NewInt(c.d), 0), c.k)
		wantDyadic(t, fmt.Sprintf("QuotientBelow of %d and %d, %d", c.c, c.d, c.k), got, code, scaled(big.NewInt(c.whole), c.wantExp))
	}
}

func TestBoundsOfQuotientBelow(t *testing.T) {
	one := big.NewInt(1)
	for _, c := range []struct {
		c, d    impl.Dyadic
		allowed bool
	}{
		{dyadic(t, power(500, -1), 0), dyadic(t, one, 0), true},
		{dyadic(t, power(900, -1), -400), dyadic(t, one, 0), true},
		{dyadic(t, one, 499), dyadic(t, one, -500), true},
		{dyadic(t, one, 500), dyadic(t, one, 0), false},
		{dyadic(t, power(500, 1), 0), dyadic(t, one, 0), false},
		{dyadic(t, one, 3000), dyadic(t, one, 3000), false},
		{dyadic(t, one, 0), dyadic(t, one, -500), true},
		{dyadic(t, one, 0), dyadic(t, power(500, 1), -1000), true},
		{dyadic(t, one, 0), dyadic(t, power(500, -1), -1000), false},
		{dyadic(t, one, 0), dyadic(t, one, -501), false},
		{dyadic(t, one, -3000), dyadic(t, one, -3000), false},
		{dyadic(t, one, -3000), dyadic(t, power(2400, -1), 3000), true},
		{impl.Dyadic{}, dyadic(t, one, 3000), true},
		{impl.Dyadic{}, dyadic(t, one, -501), false},
		{impl.Dyadic{}, impl.Dyadic{}, false},
		{dyadic(t, one, 0), impl.Dyadic{}, false},
	} {
		for _, c.c = range []impl.Dyadic{c.c, opposite(c.c)} {
			for _, c.d = range []impl.Dyadic{c.d, opposite(c.d)} {
				for _, k := range []int64{0, 500} {
					call := fmt.Sprintf("QuotientBelow(%v, %v, %d)", c.c, c.d, k)
					got, code := impl.QuotientBelow(c.c, c.d, k)
					if !c.allowed {
						wantNoDyadic(t, call, got, code, impl.ErrState)
						continue
					}
					wantDyadic(t, call, got, code, multipleBelow(new(big.Rat).Quo(ratOf(c.c), ratOf(c.d)), k))
				}
			}
		}
		for _, k := range append([]int64{-1, 501}, extremes...) {
			got, code := impl.QuotientBelow(c.c, c.d, k)
			wantNoDyadic(t, fmt.Sprintf("QuotientBelow(%v, %v, %d)", c.c, c.d, k), got, code, impl.ErrRange)
		}
	}
}

func TestFloorAndCeilDyadic(t *testing.T) {
	for _, d := range roundings() {
		r := ratOf(d)
		for _, k := range []int64{0, 1, -1, 2, -24, 149, 150, 999, 1000, -999, -1000} {
			floor, code := impl.FloorDyadic(d, k)
			below := multipleBelow(r, k)
			wantDyadic(t, fmt.Sprintf("FloorDyadic(%v, %d)", d, k), floor, code, below)
			ceil, code := impl.CeilDyadic(d, k)
			above := multipleBelow(new(big.Rat).Neg(r), k)
			wantDyadic(t, fmt.Sprintf("CeilDyadic(%v, %d)", d, k), ceil, code, above.Neg(above))
			width := new(big.Rat).Sub(ratOf(ceil), ratOf(floor))
			if ratOf(floor).Cmp(r) > 0 || ratOf(ceil).Cmp(r) < 0 || width.Cmp(step(-k)) > 0 {
				t.Errorf("the floor and the ceiling of %v for %d are %v and %v", d, k, floor, ceil)
			}
		}
		for _, k := range append([]int64{1001, -1001}, extremes...) {
			got, code := impl.FloorDyadic(d, k)
			wantNoDyadic(t, fmt.Sprintf("FloorDyadic(%v, %d)", d, k), got, code, impl.ErrRange)
			got, code = impl.CeilDyadic(d, k)
			wantNoDyadic(t, fmt.Sprintf("CeilDyadic(%v, %d)", d, k), got, code, impl.ErrRange)
		}
	}
}

func TestFloorAndCeilDyadicExamples(t *testing.T) {
	for _, c := range []struct {
		whole, exponent, k int64
		floor, ceil        *big.Rat
	}{
		{3, -2, 0, new(big.Rat), step(0)},
		{-3, -2, 0, big.NewRat(-1, 1), new(big.Rat)},
		{3, -2, 1, step(-1), step(0)},
		{3, -2, 2, big.NewRat(3, 4), big.NewRat(3, 4)},
		{5, 0, -1, big.NewRat(4, 1), big.NewRat(6, 1)},
		{-5, 0, -1, big.NewRat(-6, 1), big.NewRat(-4, 1)},
		{1, -3000, 1000, new(big.Rat), step(-1000)},
		{-1, -3000, 1000, new(big.Rat).Neg(step(-1000)), new(big.Rat)},
		{1, -3000, -1000, new(big.Rat), step(1000)},
		{-1, -3000, -1000, new(big.Rat).Neg(step(1000)), new(big.Rat)},
		{1, 3000, 1000, step(3000), step(3000)},
		{1, -1000, 1000, step(-1000), step(-1000)},
		{0, 0, 1000, new(big.Rat), new(big.Rat)},
	} {
		d := dyadic(t, big.NewInt(c.whole), c.exponent)
		floor, code := impl.FloorDyadic(d, c.k)
		wantDyadic(t, fmt.Sprintf("FloorDyadic(%v, %d)", d, c.k), floor, code, c.floor)
		ceil, code := impl.CeilDyadic(d, c.k)
		wantDyadic(t, fmt.Sprintf("CeilDyadic(%v, %d)", d, c.k), ceil, code, c.ceil)
	}
}

// rooted are exact numbers with roots on and next to multiples of small powers of two.
func rooted() []impl.Dyadic {
	all := someDyadics()
	for _, n := range []int64{1, 2, 3, 4, 7, 9, 15, 16, 17, 24, 25, 26, 1 << 30, 1<<30 - 1, 1<<30 + 1} {
		for _, e := range []int64{-401, -400, -399, -3, -2, -1, 0, 1, 2, 300} {
			all = append(all, dyadicOf(scaled(big.NewInt(n), e)))
		}
	}
	for _, k := range []uint{100, 199, 200} {
		for _, n := range []*big.Int{power(k, -1), power(k, 0), new(big.Int).Sub(power(k, -1), power(k/2, 0))} {
			square := new(big.Int).Mul(n, n)
			for _, d := range []int64{-1, 0, 1} {
				close := new(big.Int).Add(square, big.NewInt(d))
				all = append(all, dyadicOf(scaled(close, 0)), dyadicOf(scaled(close, -200)), dyadicOf(scaled(close, -400)), dyadicOf(scaled(close, -401)))
			}
		}
	}
	return all
}

func square(r *big.Rat) *big.Rat {
	return new(big.Rat).Mul(r, r)
}

// checkRoots checks both roots by what makes them such: they are multiples of 2^-k, on their side
// of the root, and the next multiples are not.
func checkRoots(t *testing.T, d impl.Dyadic, k int64) {
	t.Helper()
	r := ratOf(d)
	steps := new(big.Rat).Mul(r, step(2*k))
	root := new(big.Int).Sqrt(new(big.Int).Quo(steps.Num(), steps.Denom()))
	below := scaled(root, -k)
	above := below
	if square(below).Cmp(r) < 0 {
		above = scaled(root.Add(root, big.NewInt(1)), -k)
	}
	if square(below).Cmp(r) > 0 || square(above).Cmp(r) < 0 {
		t.Fatalf("the roots %v and %v of %v are wrong themselves", below, above, d)
	}
	got, code := impl.RootBelow(d, k)
	wantDyadic(t, fmt.Sprintf("RootBelow(%v, %d)", d, k), got, code, below)
	got, code = impl.RootAbove(d, k)
	wantDyadic(t, fmt.Sprintf("RootAbove(%v, %d)", d, k), got, code, above)
}

func TestRoots(t *testing.T) {
	for _, d := range rooted() {
		for _, k := range []int64{0, 1, 2, 5, 24, 100, 199, 200} {
			r := ratOf(d)
			if r.Sign() >= 0 && r.Cmp(step(400)) < 0 {
				checkRoots(t, d, k)
				continue
			}
			got, code := impl.RootBelow(d, k)
			wantNoDyadic(t, fmt.Sprintf("RootBelow(%v, %d)", d, k), got, code, impl.ErrRange)
			got, code = impl.RootAbove(d, k)
			wantNoDyadic(t, fmt.Sprintf("RootAbove(%v, %d)", d, k), got, code, impl.ErrRange)
		}
	}
}

func TestBoundsOfRoots(t *testing.T) {
	one := big.NewInt(1)
	for _, d := range []impl.Dyadic{
		{}, dyadic(t, one, 0), dyadic(t, one, -3000), dyadic(t, power(400, -1), 0), dyadic(t, power(2400, -1), -2000), dyadic(t, one, 399), dyadic(t, power(2400, -1), -3000),
	} {
		for _, k := range []int64{0, 200} {
			checkRoots(t, d, k)
		}
		for _, k := range append([]int64{-1, 201}, extremes...) {
			wantNoRoots(t, d, k, impl.ErrRange)
		}
	}
	for _, d := range []impl.Dyadic{
		dyadic(t, one, 400), dyadic(t, power(400, 1), 0), dyadic(t, power(401, -1), 0), dyadic(t, one, 3000), dyadic(t, power(2400, -1), -1999),
		dyadic(t, big.NewInt(-1), 0), dyadic(t, big.NewInt(-1), -3000), dyadic(t, big.NewInt(-1), 500),
	} {
		for _, k := range []int64{0, 7, 200, 201, -1} {
			wantNoRoots(t, d, k, impl.ErrRange)
		}
	}
}

func wantNoRoots(t *testing.T, d impl.Dyadic, k, wantCode int64) {
	t.Helper()
	got, code := impl.RootBelow(d, k)
	wantNoDyadic(t, fmt.Sprintf("RootBelow(%v, %d)", d, k), got, code, wantCode)
	got, code = impl.RootAbove(d, k)
	wantNoDyadic(t, fmt.Sprintf("RootAbove(%v, %d)", d, k), got, code, wantCode)
}

func TestRootExamples(t *testing.T) {
	for _, c := range []struct {
		d            *big.Rat
		k            int64
		below, above *big.Rat
	}{
		{big.NewRat(2, 1), 2, big.NewRat(5, 4), big.NewRat(3, 2)},
		{big.NewRat(2, 1), 0, big.NewRat(1, 1), big.NewRat(2, 1)},
		{big.NewRat(9, 4), 1, big.NewRat(3, 2), big.NewRat(3, 2)},
		{big.NewRat(9, 4), 0, big.NewRat(1, 1), big.NewRat(2, 1)},
		{new(big.Rat), 7, new(big.Rat), new(big.Rat)},
		{step(-3000), 0, new(big.Rat), step(0)},
		{step(-3000), 200, new(big.Rat), step(-200)},
		{step(-400), 200, step(-200), step(-200)},
		{big.NewRat(1<<20+1, 1<<20), 0, big.NewRat(1, 1), big.NewRat(2, 1)},
	} {
		d := dyadicOf(c.d)
		got, code := impl.RootBelow(d, c.k)
		wantDyadic(t, fmt.Sprintf("RootBelow(%v, %d)", d, c.k), got, code, c.below)
		got, code = impl.RootAbove(d, c.k)
		wantDyadic(t, fmt.Sprintf("RootAbove(%v, %d)", d, c.k), got, code, c.above)
	}
}
