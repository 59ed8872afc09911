package tests

import (
	"fmt"
	"math"
	"math/big"
	"testing"

	"loop.example/g01172/impl"
)

// nearestTo returns the float nearest to a number and its neighbours, as far as they are finite.
func nearestTo(r *big.Rat) []float32 {
	near, _ := r.Float32()
	var finite []float32
	for _, x := range []float32{near, math.Nextafter32(near, infinite), math.Nextafter32(near, -infinite)} {
		if x-x == 0 {
			finite = append(finite, x)
		}
	}
	return finite
}

// floatsAndHalves returns the value of a float and the number half between it and the next one
// away from 0, to which quotients and roots can be near.
func floatsAndHalves(x float32) []*big.Rat {
	_, e, _ := impl.PartsOf(x)
	half := step(e - 1)
	if isMinus(x) {
		half.Neg(half)
	}
	return []*big.Rat{floatRat(x), half.Add(half, floatRat(x))}
}

// These quotients are as near to floats, and to halves between floats, as quotients can be.
func TestQuotientsNextToFloatsAndHalves(t *testing.T) {
	divisors := append(disordered(7, 20), 3, 7, 0x1.fffffep0, 0x1.fffffcp10, -0x1.000002p-3, 0x1.8p60, 0x1.555554p-20)
	quotients := append(disordered(8, 20), 1, 0x1.000002p0, 0x1.fffffep-1, -1.5, 0x1.555556p3, least, -3*least, 5*least, greatestSubnorm, leastNormal, 0x1.000002p-126, greatest)
	for _, y := range divisors {
		for _, q := range quotients {
			for _, r := range floatsAndHalves(q) {
				for _, x := range nearestTo(r.Mul(r, floatRat(y))) {
					wantRoundedResult(t, operations[quotientKind], x, y)
				}
			}
		}
	}
}

// rootOf returns the root of a float of at least 0 in a mode. It finds the floats around it by
// their squares, and which one is nearer by the square of the half between both.
func rootOf(x float32, mode int64) (float32, int64) {
	value := floatRat(x)
	isBelow := func(y *big.Rat) bool { return new(big.Rat).Mul(y, y).Cmp(value) <= 0 }
	low := float32(math.Sqrt(float64(x)))
	for !isBelow(floatRat(low)) {
		low = math.Nextafter32(low, 0)
	}
	high := math.Nextafter32(low, infinite)
	for isBelow(floatRat(high)) {
		low, high = high, math.Nextafter32(high, infinite)
	}
	if new(big.Rat).Mul(floatRat(low), floatRat(low)).Cmp(value) == 0 {
		return low, 0
	}
	half := new(big.Rat).Add(floatRat(low), floatRat(high))
	half.Mul(half, step(-1))
	if mode == impl.Up || mode == impl.Outward || mode == impl.Nearest && isBelow(half) {
		return high, impl.FlagInexact
	}
	return low, impl.FlagInexact
}

func wantRoot(t *testing.T, x float32) {
	t.Helper()
	var results [5]float32
	for _, mode := range modes {
		want, wantFlags := rootOf(x, mode)
		root, flags, code := impl.RootIn(x, mode)
		wantResult(t, fmt.Sprintf("RootIn(%v, %d)", x, mode), root, flags, code, want, wantFlags, impl.ErrNone)
		results[mode] = root
	}
	wantEnclosed(t, fmt.Sprintf("RootIn(%v)", x), results)
	wantFloat(t, fmt.Sprintf("RootIn(%v, Nearest)", x), results[impl.Nearest], impl.ErrNone, float32(math.Sqrt(float64(x))), impl.ErrNone)
}

func TestRootsOfFloats(t *testing.T) {
	everyKind(func(x float32) {
		if x-x == 0 && x > 0 {
			wantRoot(t, x)
		}
	})
	for _, x := range disordered(9, 1000) {
		wantRoot(t, float32(math.Abs(float64(x))))
	}
	for n := range 300 {
		wantRoot(t, float32(n))
	}
}

// These roots are as near to floats, and to halves between floats, as roots can be.
func TestRootsNextToFloatsAndHalves(t *testing.T) {
	roots := []float32{1, 0x1.000002p0, 0x1.000004p0, 0x1.fffffep0, 0x1.fffffcp0, 0x1.6a09e6p0, 0x1.6a09e8p0, 0x1.fffffep63, 0x1.6a09e6p-75, 0x1p-63, 0x1.fffffep-64}
	for _, x := range disordered(10, 2000) {
		if x = float32(math.Abs(float64(x))); x > 0x1p-74 && x < 0x1p64 {
			roots = append(roots, x)
		}
	}
	for _, root := range roots {
		for _, r := range floatsAndHalves(root) {
			for _, x := range nearestTo(r.Mul(r, r)) {
				wantRoot(t, x)
			}
		}
	}
}

// The results here are written out, for each mode in the order of the modes.
func TestRootsThatAreWrittenOut(t *testing.T) {
	for _, c := range []example{
		{x: 0, want: alike[float32](0)},
		{x: minusZero, want: alike(minusZero)},
		{x: 1, want: alike[float32](1)},
		{x: 2.25, want: alike[float32](1.5)},
		{x: 4, want: alike[float32](2)},
		{x: 0x1p-148, want: alike[float32](0x1p-74)},
		{x: 9 * 0x1p-148, want: alike[float32](3 * 0x1p-74)},
		{x: 0x1p126, want: alike[float32](0x1p63)},
		{x: 2, want: [5]float32{0x1.6a09e6p0, 0x1.6a09e6p0, 0x1.6a09e8p0, 0x1.6a09e6p0, 0x1.6a09e8p0}, flags: alike[int64](lost)},
		{x: least, want: [5]float32{0x1.6a09e6p-75, 0x1.6a09e6p-75, 0x1.6a09e8p-75, 0x1.6a09e6p-75, 0x1.6a09e8p-75}, flags: alike[int64](lost)},
		{x: greatest, want: [5]float32{0x1.fffffep63, 0x1.fffffep63, 0x1p64, 0x1.fffffep63, 0x1p64}, flags: alike[int64](lost)},
		// This root is less than the half between two floats by about 2^-51, and with 49 bits it
		// would be that half.
		{x: 0x1.fffffep-1, want: [5]float32{0x1.fffffep-1, 0x1.fffffep-1, 1, 0x1.fffffep-1, 1}, flags: alike[int64](lost)},
		// This one is less than a float by about 2^-47.
		{x: 0x1.000004p0, want: [5]float32{0x1.000002p0, 1, 0x1.000002p0, 1, 0x1.000002p0}, flags: alike[int64](lost)},
	} {
		for _, mode := range modes {
			root, flags, code := impl.RootIn(c.x, mode)
			wantResult(t, fmt.Sprintf("RootIn(%v, %d)", c.x, mode), root, flags, code, c.want[mode], c.flags[mode], impl.ErrNone)
		}
	}
}

// nearestMultiple returns the integer nearest to a number, of two as near the even one.
func nearestMultiple(r *big.Rat) *big.Int {
	double := new(big.Int).Lsh(r.Num(), 1)
	below, rest := new(big.Int).DivMod(double.Add(double, r.Denom()), new(big.Int).Lsh(r.Denom(), 1), new(big.Int))
	if rest.Sign() == 0 && below.Bit(0) == 1 {
		below.Sub(below, big.NewInt(1))
	}
	return below
}

func wantRemainder(t *testing.T, x, y float32) {
	t.Helper()
	n := nearestMultiple(new(big.Rat).Quo(floatRat(x), floatRat(y)))
	r := new(big.Rat).SetInt(n)
	r.Sub(floatRat(x), r.Mul(r, floatRat(y)))
	want, isFloat := r.Float32()
	if !isFloat {
		t.Errorf("the remainder of %v and %v is no float", x, y)
	}
	if r.Sign() == 0 && isMinus(x) {
		want = minusZero
	}
	got, code := impl.RemainderOf(x, y)
	wantFloat(t, fmt.Sprintf("RemainderOf(%v, %v)", x, y), got, code, want, impl.ErrNone)
}

func TestRemainders(t *testing.T) {
	pairs(func(x, y float32) {
		if y != 0 {
			wantRemainder(t, x, y)
		}
	})
	for n := float32(-40); n <= 40; n++ {
		for _, y := range []float32{-6, -4, -3, -0.5, 0.5, 1, 2, 3, 4, 6, 7} {
			wantRemainder(t, n, y)
			wantRemainder(t, n*least, y*2*least)
			wantRemainder(t, n*0x1p120, y*0x1p120)
		}
	}
}

func TestRemaindersThatAreWrittenOut(t *testing.T) {
	for _, c := range []struct{ x, y, want float32 }{
		{5, 3, -1},
		{4, 3, 1},
		{-5, 3, 1},
		{5, -3, -1},
		{-5, -3, 1},
		// Here the quotient is half between two integers.
		{1, 2, 1},
		{3, 2, -1},
		{5, 2, 1},
		{7, 2, -1},
		{-1, 2, -1},
		{-3, 2, 1},
		{5, -2, 1},
		{7.5, 1, -0.5},
		{8.5, 1, 0.5},
		{least, 2 * least, least},
		{3 * least, 2 * least, -least},
		{0x1.fffffep126, greatest, 0x1.fffffep126},
		{0x1.fffffep127, 0x1p127, -0x1p104},
		{0x1p127, greatest, -0x1.fffffcp126},
		// Here the floats are far apart.
		{least, greatest, least},
		{-least, greatest, -least},
		{1, greatest, 1},
		{0x1p127, 3, -1},
		{0x1p127, 3 * least, least},
		{0x1p126, 3 * least, -least},
		{-0x1p127, 3 * least, -least},
		{0x1p127, 5 * least, least},
		{0x1p125, 5 * least, -least},
		{0x1p126, 5 * least, -2 * least},
		// Here nothing is left.
		{6, 3, 0},
		{-6, 3, minusZero},
		{6, -3, 0},
		{-6, -3, minusZero},
		{0, 5, 0},
		{minusZero, 5, minusZero},
		{minusZero, -5, minusZero},
		{0, -least, 0},
		{greatest, least, 0},
		{-greatest, least, minusZero},
		{-greatest, greatest, minusZero},
		{least, -least, 0},
	} {
		got, code := impl.RemainderOf(c.x, c.y)
		wantFloat(t, fmt.Sprintf("RemainderOf(%v, %v)", c.x, c.y), got, code, c.want, impl.ErrNone)
	}
}
