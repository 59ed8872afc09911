package tests

import (
	"fmt"
	"math"
	"math/big"
	"slices"
	"testing"

	"loop.example/g01172/impl"
)

// nextTo calls visit with numbers around a finite float: itself, and what is less or more than
// half a step behind it, or exactly that, by as little as an exact number can tell.
func nextTo(x float32, visit func(d impl.Dyadic)) {
	value := new(big.Rat).SetFloat64(float64(x))
	_, e, _ := impl.PartsOf(x)
	half, little := step(e-1), []*big.Rat{step(e - 2), step(e - 20), step(e - 900), step(e - 2300)}
	around := []*big.Rat{new(big.Rat), half, step(e)}
	visit(dyadicOf(value))
	for _, base := range around {
		visit(dyadicOf(new(big.Rat).Add(value, base)))
		for _, r := range little {
			visit(dyadicOf(new(big.Rat).Add(value, new(big.Rat).Add(base, r))))
			visit(dyadicOf(new(big.Rat).Add(value, new(big.Rat).Sub(base, r))))
		}
	}
}

// roundings returns exact numbers that are rounded in every way.
func roundings() []impl.Dyadic {
	all := someDyadics()
	for _, x := range []float32{
		0, leastSubnormal, 2 * leastSubnormal, 3 * leastSubnormal, 1e-40, greatestSubnorm - leastSubnormal, greatestSubnorm,
		leastNormal, leastNormal + leastSubnormal, 2*leastNormal - leastSubnormal, 2 * leastNormal, 0.75, 1, math.Float32frombits(1065353215), math.Float32frombits(1065353217),
		16777215, 16777216, 16777218, 1e30, math.Float32frombits(2139095038), greatest,
	} {
		nextTo(x, func(d impl.Dyadic) { all = append(all, d, opposite(d)) })
	}
	return all
}

func wantRounded(t *testing.T, d impl.Dyadic, mode int64, want float32, wantFlags int64) {
	t.Helper()
	x, flags, code := impl.RoundDyadic(d, mode)
	if !same(x, want) || flags != wantFlags || code != impl.ErrNone {
		t.Errorf("RoundDyadic(%v, %d) = %v, %d, %d, want %v, %d, 0", d, mode, x, flags, code, want, wantFlags)
	}
}

func TestRoundDyadic(t *testing.T) {
	for _, d := range roundings() {
		r := ratOf(d)
		for _, mode := range modes {
			want, flags := roundedRat(r, mode)
			wantRounded(t, d, mode, want, flags)
		}
	}
}

func TestRoundDyadicNextToFloatsOfAllKinds(t *testing.T) {
	everyKind(func(x float32) {
		if math.IsInf(float64(x), 0) {
			return
		}
		_, e, _ := impl.PartsOf(x)
		for _, quarters := range []int64{-3, -2, -1, 1, 2, 3} {
			r := new(big.Rat).Add(new(big.Rat).SetFloat64(float64(x)), scaled(big.NewInt(quarters), e-2))
			for _, mode := range modes {
				want, flags := roundedRat(r, mode)
				wantRounded(t, dyadicOf(r), mode, want, flags)
			}
		}
	})
}

// The results here are written out, for each mode in the order of the modes.
func TestRoundDyadicExamples(t *testing.T) {
	const lost, tiny, over = impl.FlagInexact, impl.FlagInexact + impl.FlagTiny, impl.FlagInexact + impl.FlagOverflow
	least, inf := float32(leastSubnormal), infinite
	for _, c := range []struct {
		whole, exponent int64
		want            [5]float32
		flags           [5]int64
	}{
		{0, 0, [5]float32{0, 0, 0, 0, 0}, [5]int64{}},
		{-3, -2, [5]float32{-0.75, -0.75, -0.75, -0.75, -0.75}, [5]int64{}},
		{16777217, 0, [5]float32{16777216, 16777216, 16777218, 16777216, 16777218}, [5]int64{lost, lost, lost, lost, lost}},
		{-16777217, 0, [5]float32{-16777216, -16777218, -16777216, -16777216, -16777218}, [5]int64{lost, lost, lost, lost, lost}},
		{16777219, 0, [5]float32{16777220, 16777218, 16777220, 16777218, 16777220}, [5]int64{lost, lost, lost, lost, lost}},
		{67108869, -2, [5]float32{16777218, 16777216, 16777218, 16777216, 16777218}, [5]int64{lost, lost, lost, lost, lost}},
		{67108867, -2, [5]float32{16777216, 16777216, 16777218, 16777216, 16777218}, [5]int64{lost, lost, lost, lost, lost}},
		{1, -149, [5]float32{least, least, least, least, least}, [5]int64{}},
		{1, -150, [5]float32{0, 0, least, 0, least}, [5]int64{tiny, tiny, tiny, tiny, tiny}},
		{-1, -150, [5]float32{minusZero, -least, minusZero, minusZero, -least}, [5]int64{tiny, tiny, tiny, tiny, tiny}},
		{3, -151, [5]float32{least, 0, least, 0, least}, [5]int64{tiny, tiny, tiny, tiny, tiny}},
		{3, -150, [5]float32{2 * least, least, 2 * least, least, 2 * least}, [5]int64{tiny, tiny, tiny, tiny, tiny}},
		{5, -150, [5]float32{2 * least, 2 * least, 3 * least, 2 * least, 3 * least}, [5]int64{tiny, tiny, tiny, tiny, tiny}},
		{1, -3000, [5]float32{0, 0, least, 0, least}, [5]int64{tiny, tiny, tiny, tiny, tiny}},
		{-1, -3000, [5]float32{minusZero, -least, minusZero, minusZero, -least}, [5]int64{tiny, tiny, tiny, tiny, tiny}},
		{16777215, -150, [5]float32{leastNormal, greatestSubnorm, leastNormal, greatestSubnorm, leastNormal}, [5]int64{tiny, tiny, tiny, tiny, tiny}},
		{16777217, -150, [5]float32{leastNormal, leastNormal, leastNormal + least, leastNormal, leastNormal + least}, [5]int64{lost, lost, lost, lost, lost}},
		{16777215, 104, [5]float32{greatest, greatest, greatest, greatest, greatest}, [5]int64{}},
		{1, 128, [5]float32{inf, greatest, inf, greatest, inf}, [5]int64{over, over, over, over, over}},
		{-1, 128, [5]float32{-inf, -inf, -greatest, -greatest, -inf}, [5]int64{over, over, over, over, over}},
		{1, 3000, [5]float32{inf, greatest, inf, greatest, inf}, [5]int64{over, over, over, over, over}},
		{33554431, 103, [5]float32{inf, greatest, inf, greatest, inf}, [5]int64{over, lost, over, lost, over}},
		{-33554431, 103, [5]float32{-inf, -inf, -greatest, -greatest, -inf}, [5]int64{over, over, lost, lost, over}},
		{67108861, 102, [5]float32{greatest, greatest, inf, greatest, inf}, [5]int64{lost, lost, over, lost, over}},
		{-67108861, 102, [5]float32{-greatest, -inf, -greatest, -greatest, -inf}, [5]int64{lost, over, lost, lost, over}},
	} {
		d := impl.Dyadic{Whole: wholeOfBig(big.NewInt(c.whole)), Exponent: c.exponent}
		for mode, want := range c.want {
			wantRounded(t, d, int64(mode), want, c.flags[mode])
		}
	}
}

func TestFloatsAreRoundedToThemselves(t *testing.T) {
	everyKind(func(x float32) {
		d, code := impl.DyadicOf(x)
		if code != impl.ErrNone {
			return
		}
		want := x
		if x == 0 {
			want = 0
		}
		for _, mode := range modes {
			wantRounded(t, d, mode, want, 0)
		}
		low, high, code := impl.EnclosingFloats(d)
		wantFloat(t, fmt.Sprintf("the low float of EnclosingFloats of %v", x), low, code, want, impl.ErrNone)
		wantFloat(t, fmt.Sprintf("the high float of EnclosingFloats of %v", x), high, code, want, impl.ErrNone)
	})
}

func TestDownAndUpEnclose(t *testing.T) {
	for _, d := range roundings() {
		r := ratOf(d)
		low, _, _ := impl.RoundDyadic(d, impl.Down)
		high, _, _ := impl.RoundDyadic(d, impl.Up)
		if compareWithFloat(r, low) < 0 || compareWithFloat(r, high) > 0 {
			t.Errorf("%v is rounded to %v and %v, which do not enclose it", d, low, high)
		}
		if apart := placeOf(t, high) - placeOf(t, low); apart < 0 || apart > 1 {
			t.Errorf("%v is rounded to %v and %v, which are %d places apart", d, low, high, apart)
		}
		for _, mode := range modes {
			x, flags, _ := impl.RoundDyadic(d, mode)
			if !same(x, low) && !same(x, high) {
				t.Errorf("%v is rounded to %v in the mode %d, which is none of %v and %v", d, x, mode, low, high)
			}
			if exact := compareWithFloat(r, x) == 0; exact != (flags == 0) {
				t.Errorf("%v is rounded to %v in the mode %d with the flags %d", d, x, mode, flags)
			}
		}
		gotLow, gotHigh, code := impl.EnclosingFloats(d)
		wantFloat(t, fmt.Sprintf("the low float of EnclosingFloats(%v)", d), gotLow, code, low, impl.ErrNone)
		wantFloat(t, fmt.Sprintf("the high float of EnclosingFloats(%v)", d), gotHigh, code, high, impl.ErrNone)
	}
}

func TestRoundingKeepsTheOrder(t *testing.T) {
	all := roundings()
	slices.SortFunc(all, func(c, d impl.Dyadic) int { return ratOf(c).Cmp(ratOf(d)) })
	for _, mode := range modes {
		for i := 1; i < len(all); i++ {
			x, _, _ := impl.RoundDyadic(all[i-1], mode)
			y, _, _ := impl.RoundDyadic(all[i], mode)
			if x > y {
				t.Errorf("%v and %v are rounded to %v and %v in the mode %d", all[i-1], all[i], x, y, mode)
			}
		}
	}
}

func TestErrorOfRounding(t *testing.T) {
	for _, d := range roundings() {
		r := ratOf(d)
		for _, mode := range modes {
			call := fmt.Sprintf("ErrorOfRounding(%v, %d)", d, mode)
			got, code := impl.ErrorOfRounding(d, mode)
			x, flags := roundedRat(r, mode)
			if flags&impl.FlagOverflow != 0 {
				wantNoDyadic(t, call, got, code, impl.ErrState)
				continue
			}
			want := new(big.Rat).SetFloat64(float64(x))
			wantDyadic(t, call, got, code, want.Sub(want, r))
		}
	}
}

// An error is too large if the least float greater than 0 and the exponent are too far apart.
func TestErrorOfRoundingThatIsTooLarge(t *testing.T) {
	for _, c := range []struct {
		exponent, wantCode int64
	}{{-3000, impl.ErrLimit}, {-2550, impl.ErrLimit}, {-2549, impl.ErrNone}, {-2548, impl.ErrNone}} {
		d := impl.Dyadic{Whole: impl.Whole{Sign: 1, Limbs: []int64{1}}, Exponent: c.exponent}
		got, code := impl.ErrorOfRounding(d, impl.Up)
		if code != c.wantCode {
			t.Errorf("ErrorOfRounding(%v, Up): code %d", d, code)
		}
		wantDyadic(t, fmt.Sprintf("ErrorOfRounding(%v, Up)", d), got, code, new(big.Rat).Sub(step(-149), ratOf(d)))
		got, code = impl.ErrorOfRounding(d, impl.Down)
		wantDyadic(t, fmt.Sprintf("ErrorOfRounding(%v, Down)", d), got, code, new(big.Rat).Neg(ratOf(d)))
	}
}
