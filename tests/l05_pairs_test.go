package tests

import (
	"fmt"
	"math/big"
	"testing"

	"loop.example/g01172/impl"
)

func TestIsPair(t *testing.T) {
	everyKind(func(x float32) {
		lows := append(lastPlaces(x), x, turned(x), infinite, -infinite, notANumber)
		for _, low := range lows {
			p := impl.Pair{High: x, Low: low}
			if got := impl.IsPair(p); got != isPair(p) {
				t.Errorf("IsPair({%x, %x}) = %v", x, low, got)
			}
		}
	})
	pairs(func(x, y float32) {
		p := impl.Pair{High: x, Low: y}
		if got := impl.IsPair(p); got != isPair(p) {
			t.Errorf("IsPair({%x, %x}) = %v", x, y, got)
		}
	})
}

func TestIsPairThatIsWrittenOut(t *testing.T) {
	for _, c := range []struct {
		high, low float32
		want      bool
	}{
		{1, 0, true},
		{1, minusZero, true},
		{0, 0, true},
		{0, minusZero, true},
		{minusZero, 0, true},
		{minusZero, minusZero, true},
		{0, least, false},
		{minusZero, -least, false},
		{1, 0x1p-30, true},
		// Half of a last place beside an even and an odd High, and beneath a power of two.
		{1, 0x1p-24, true},
		{1, 0x1.000002p-24, false},
		{0x1.000002p0, 0x1p-24, false},
		{0x1.000002p0, -0x1p-24, false},
		{0x1.000002p0, 0x1.fffffep-25, true},
		{0x1.000004p0, -0x1p-24, true},
		{0x1.000004p0, 0x1p-24, true},
		{1, -0x1p-25, true},
		{1, -0x1.000002p-25, false},
		{1, -0x1p-24, false},
		{1, 1, false},
		{1, -1, false},
		{0x1p-30, 1, false},
		// Subnormal floats have no smaller ones beside them.
		{least, 0, true},
		{least, least, false},
		{leastNormal, least, false},
		{0x1p-125, least, true},
		{0x1.000002p-125, least, false},
		{0x1.000004p-125, -least, true},
		// The sum is infinite.
		{greatest, 0x1p103, false},
		{greatest, 0x1.fffffep102, true},
		{greatest, greatest, false},
		// Floats that are not finite.
		{infinite, 0, false},
		{-infinite, 1, false},
		{infinite, infinite, false},
		{infinite, -infinite, false},
		{1, infinite, false},
		{0, notANumber, false},
		{notANumber, 0, false},
		{notANumber, notANumber, false},
	} {
		if got := impl.IsPair(impl.Pair{High: c.high, Low: c.low}); got != c.want {
			t.Errorf("IsPair({%x, %x}) = %v", c.high, c.low, got)
		}
	}
}

func TestValueOfPair(t *testing.T) {
	all := append(somePairs(), impl.Pair{High: minusZero, Low: minusZero}, impl.Pair{High: greatest, Low: -least})
	for _, p := range all {
		d, code := impl.ValueOfPair(p)
		wantDyadic(t, fmt.Sprintf("ValueOfPair(%v)", p), d, code, pairRat(p))
	}
	d, code := impl.ValueOfPair(impl.Pair{High: 1, Low: 0x1p-30})
	wantDyadic(t, "ValueOfPair({1, 2^-30})", d, code, scaled(power(30, 1), -30))
}

// wantPairOf checks the nearest floats, the second one of what is left.
func wantPairOf(t *testing.T, r *big.Rat) {
	t.Helper()
	d := dyadicOf(r)
	high, _ := r.Float32()
	want, wantCode := impl.Pair{}, int64(impl.ErrLimit)
	if high-high == 0 {
		low, _ := new(big.Rat).Sub(r, floatRat(high)).Float32()
		// A sum of 0 and -0 is 0.
		want, wantCode = impl.Pair{High: high + 0, Low: low + 0}, impl.ErrNone
		if !isPair(want) {
			want, wantCode = impl.Pair{}, impl.ErrState
		}
	}
	p, code := impl.PairOfDyadic(d)
	wantPair(t, fmt.Sprintf("PairOfDyadic(%v)", r), p, code, want, wantCode)
}

func TestPairOfDyadic(t *testing.T) {
	for _, d := range someDyadics() {
		wantPairOf(t, ratOf(d))
	}
	for _, p := range somePairs() {
		r := pairRat(p)
		for _, e := range []int64{-200, -149, -150, -60, 60, 90} {
			wantPairOf(t, new(big.Rat).Add(r, step(e)))
			wantPairOf(t, new(big.Rat).Sub(r, step(e)))
		}
		got, code := impl.PairOfDyadic(dyadicOf(r))
		wantPair(t, fmt.Sprintf("PairOfDyadic(%v)", r), got, code, impl.Pair{High: p.High + 0, Low: p.Low + 0}, impl.ErrNone)
	}
}

func TestPairOfDyadicThatIsWrittenOut(t *testing.T) {
	for _, c := range []struct {
		n    *big.Int
		e    int64
		want impl.Pair
		code int64
	}{
		{n: big.NewInt(0)},
		{n: big.NewInt(3), want: impl.Pair{High: 3}},
		{n: power(30, 1), e: -30, want: impl.Pair{High: 1, Low: 0x1p-30}},
		{n: power(60, 1), e: -60, want: impl.Pair{High: 1, Low: 0x1p-60}},
		// Low is the nearest float: what is left of it is lost.
		{n: new(big.Int).Add(power(100, 0), power(70, 1)), e: -100, want: impl.Pair{High: 1, Low: 0x1p-30}},
		// The rest is half of a last place beside an even High, and is rounded to it beside an odd one.
		{n: power(24, 1), e: -24, want: impl.Pair{High: 1, Low: 0x1p-24}},
		{n: power(24, 3), e: -24, want: impl.Pair{High: 0x1.000004p0, Low: -0x1p-24}},
		{n: new(big.Int).Sub(power(60, 3<<36), big.NewInt(1)), e: -60, code: impl.ErrState},
		{n: new(big.Int).Sub(power(60, 3<<36), power(11, 0)), e: -60, code: impl.ErrState},
		{n: new(big.Int).Sub(power(60, 3<<36), power(12, 0)), e: -60, want: impl.Pair{High: 0x1.000002p0, Low: 0x1.fffffep-25}},
		{n: new(big.Int).Add(power(60, 1<<36), big.NewInt(1)), e: -60, code: impl.ErrState},
		{n: new(big.Int).Neg(new(big.Int).Sub(power(60, 3<<36), big.NewInt(1))), e: -60, code: impl.ErrState},
		// Half of the last place is half of the least float, which is rounded to 0.
		{n: big.NewInt(3), e: -150, want: impl.Pair{High: 2 * least}},
		{n: big.NewInt(5), e: -150, want: impl.Pair{High: 2 * least}},
		{n: big.NewInt(-5), e: -150, want: impl.Pair{High: -2 * least}},
		{n: big.NewInt(-7), e: -151, want: impl.Pair{High: -2 * least}},
		// Less than the least float, and both of its halves.
		{n: big.NewInt(1), e: -150},
		{n: big.NewInt(-1), e: -150},
		{n: big.NewInt(3), e: -151, want: impl.Pair{High: least}},
		{n: big.NewInt(1), e: -3000},
		{n: big.NewInt(-1), e: -3000},
		// Next to the greatest float, at which the rest is rounded to half of a last place, and beyond it.
		{n: power(128, 0).Sub(power(128, 0), power(104, 0)), want: impl.Pair{High: greatest}},
		{n: new(big.Int).Sub(power(128, 0), power(103, 1)), code: impl.ErrState},
		{n: new(big.Int).Sub(power(128, 0), power(103, 1<<40)), code: impl.ErrState},
		{n: new(big.Int).Sub(power(128, 0), new(big.Int).Add(power(103, 0), power(79, 0))), want: impl.Pair{High: greatest, Low: 0x1.fffffep102}},
		{n: new(big.Int).Sub(power(128, 0), power(103, 0)), code: impl.ErrLimit},
		{n: power(128, 0), code: impl.ErrLimit},
		{n: new(big.Int).Neg(power(128, 0)), code: impl.ErrLimit},
		{n: big.NewInt(1), e: 3000, code: impl.ErrLimit},
		{n: big.NewInt(-1), e: 3000, code: impl.ErrLimit},
		{n: power(2399, 1), e: 0, code: impl.ErrLimit},
	} {
		p, code := impl.PairOfDyadic(dyadicOf(scaled(c.n, c.e)))
		wantPair(t, fmt.Sprintf("PairOfDyadic(%v times 2^%d)", c.n, c.e), p, code, c.want, c.code)
	}
}

func TestPairsOfExactNumbersComeBack(t *testing.T) {
	for _, p := range somePairs() {
		d, _ := impl.ValueOfPair(p)
		q, code := impl.PairOfDyadic(d)
		if q != p || code != impl.ErrNone {
			t.Errorf("the pair of the value of %v is %v, %d", p, q, code)
		}
	}
}

func TestErrorOfPair(t *testing.T) {
	ps := append(somePairs(), impl.Pair{})
	for i, d := range someDyadics() {
		for j := range 12 {
			p := ps[(7*i+31*j)%len(ps)]
			e, code := impl.ErrorOfPair(p, d)
			wantDyadic(t, fmt.Sprintf("ErrorOfPair(%v, %v)", p, d), e, code, new(big.Rat).Sub(pairRat(p), ratOf(d)))
		}
	}
	for _, p := range ps {
		d, _ := impl.ValueOfPair(p)
		e, code := impl.ErrorOfPair(p, d)
		wantDyadic(t, fmt.Sprintf("ErrorOfPair(%v, its value)", p), e, code, new(big.Rat))
	}
}

// A difference is too large with more than 100 limbs; with 0 it is a number as long as the other.
func TestErrorsOfPairsThatAreTooLarge(t *testing.T) {
	tooLarge, long := dyadic(t, big.NewInt(1), 3000), dyadic(t, power(2400, -1), 0)
	for _, c := range []struct {
		p    impl.Pair
		d    impl.Dyadic
		code int64
	}{
		{impl.Pair{High: 1}, tooLarge, impl.ErrLimit},
		{impl.Pair{}, tooLarge, impl.ErrNone},
		{impl.Pair{High: minusZero}, dyadic(t, big.NewInt(1), -3000), impl.ErrNone},
		{impl.Pair{High: 1}, dyadic(t, big.NewInt(1), -3000), impl.ErrLimit},
		{impl.Pair{High: 1}, dyadic(t, big.NewInt(1), -2399), impl.ErrNone},
		{impl.Pair{High: 1}, dyadic(t, big.NewInt(-1), -2400), impl.ErrLimit},
		{impl.Pair{High: 1}, dyadic(t, big.NewInt(1), -2400), impl.ErrNone},
		{impl.Pair{High: 1}, long, impl.ErrNone},
		{impl.Pair{High: -1}, long, impl.ErrNone},
		{impl.Pair{High: -2}, long, impl.ErrLimit},
		{impl.Pair{High: -3}, long, impl.ErrNone},
		{impl.Pair{High: 3, Low: 0x1p-24}, long, impl.ErrLimit},
	} {
		e, code := impl.ErrorOfPair(c.p, c.d)
		if code != c.code {
			t.Errorf("ErrorOfPair(%v, %v) has the code %d, want %d", c.p, c.d, code, c.code)
		}
		wantDyadic(t, fmt.Sprintf("ErrorOfPair(%v, %v)", c.p, c.d), e, code, new(big.Rat).Sub(pairRat(c.p), ratOf(c.d)))
	}
}
