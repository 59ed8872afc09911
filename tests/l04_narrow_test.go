package tests

import (
	"fmt"
	"math"
	"math/big"
	"slices"
	"testing"

	"loop.example/g01172/impl"
)

// wantNarrow checks a finite float64 in all modes, and that the nearest float is that of the
// conversion of the language, an infinite one, too.
func wantNarrow(t *testing.T, x float64) {
	t.Helper()
	var results [5]float32
	for _, mode := range modes {
		want, wantFlags := roundedRat(new(big.Rat).SetFloat64(x), mode)
		if x == 0 && math.Signbit(x) {
			want = minusZero
		}
		y, flags, code := impl.NarrowIn(x, mode)
		wantResult(t, fmt.Sprintf("NarrowIn(%v, %d)", x, mode), y, flags, code, want, wantFlags, impl.ErrNone)
		results[mode] = y
	}
	wantEnclosed(t, fmt.Sprintf("NarrowIn(%v)", x), results)
	wantFloat(t, fmt.Sprintf("NarrowIn(%v, Nearest)", x), results[impl.Nearest], impl.ErrNone, float32(x), impl.ErrNone)
}

func TestNarrowAgainstExactValues(t *testing.T) {
	everyKind(func(x float32) {
		if x-x != 0 {
			return
		}
		last, _ := impl.LastPlace(x)
		for _, part := range []float64{0, 0.25, 0.5, 0.75} {
			y := float64(x) + part*float64(last)
			wantNarrow(t, y)
			wantNarrow(t, math.Nextafter(y, math.Inf(1)))
			wantNarrow(t, math.Nextafter(y, math.Inf(-1)))
		}
	})
	next := noise(13)
	for range 2000 {
		if x := math.Float64frombits(next()); x-x == 0 {
			wantNarrow(t, x)
		}
	}
	for _, x := range []float64{0, math.Copysign(0, -1), math.SmallestNonzeroFloat64, 0x1p-1022, 0x1.fffffffffffffp-1023, math.MaxFloat64} {
		wantNarrow(t, x)
		wantNarrow(t, -x)
	}
}

// Floats keep their value in every mode, without flags.
func TestNarrowOfFloats(t *testing.T) {
	everyKind(func(x float32) {
		if x-x != 0 {
			return
		}
		for _, mode := range modes {
			y, flags, code := impl.NarrowIn(float64(x), mode)
			wantResult(t, fmt.Sprintf("NarrowIn(%v, %d)", x, mode), y, flags, code, x, 0, impl.ErrNone)
		}
	})
}

// The results here are written out, for each mode in the order of the modes.
func TestNarrowExamples(t *testing.T) {
	for _, c := range []struct {
		x     float64
		want  [5]float32
		flags [5]int64
	}{
		{0, alike[float32](0), alike[int64](0)},
		{math.Copysign(0, -1), alike(minusZero), alike[int64](0)},
		{1.5, alike[float32](1.5), alike[int64](0)},
		{-leastSubnormal, alike(-least), alike[int64](0)},
		{0.1, [5]float32{0x1.99999ap-4, 0x1.999998p-4, 0x1.99999ap-4, 0x1.999998p-4, 0x1.99999ap-4}, alike[int64](lost)},
		{-0.1, [5]float32{-0x1.99999ap-4, -0x1.99999ap-4, -0x1.999998p-4, -0x1.999998p-4, -0x1.99999ap-4}, alike[int64](lost)},
		{0x1.000001p0, [5]float32{1, 1, 0x1.000002p0, 1, 0x1.000002p0}, alike[int64](lost)},
		{0x1.0000010000001p0, [5]float32{0x1.000002p0, 1, 0x1.000002p0, 1, 0x1.000002p0}, alike[int64](lost)},
		{0x1.000003p0, [5]float32{0x1.000004p0, 0x1.000002p0, 0x1.000004p0, 0x1.000002p0, 0x1.000004p0}, alike[int64](lost)},
		{-0x1.000003p0, [5]float32{-0x1.000004p0, -0x1.000004p0, -0x1.000002p0, -0x1.000002p0, -0x1.000004p0}, alike[int64](lost)},
		{0x1.8p-149, [5]float32{2 * least, least, 2 * least, least, 2 * least}, alike[int64](tiny)},
		{0x1p-150, [5]float32{0, 0, least, 0, least}, alike[int64](tiny)},
		{0x1.0000000000001p-150, [5]float32{least, 0, least, 0, least}, alike[int64](tiny)},
		{-0x1p-150, [5]float32{minusZero, -least, minusZero, minusZero, -least}, alike[int64](tiny)},
		{math.SmallestNonzeroFloat64, [5]float32{0, 0, least, 0, least}, alike[int64](tiny)},
		{-math.SmallestNonzeroFloat64, [5]float32{minusZero, -least, minusZero, minusZero, -least}, alike[int64](tiny)},
		{0x1.fffffep-127, [5]float32{leastNormal, greatestSubnorm, leastNormal, greatestSubnorm, leastNormal}, alike[int64](tiny)},
		{0x1.000001p-126, [5]float32{leastNormal, leastNormal, leastNormal + least, leastNormal, leastNormal + least}, alike[int64](lost)},
		{0x1.fffffefffffffp127, [5]float32{greatest, greatest, infinite, greatest, infinite}, [5]int64{lost, lost, over, lost, over}},
		{0x1.ffffffp127, pastGreatest, [5]int64{over, lost, over, lost, over}},
		{-0x1.ffffffp127, [5]float32{-infinite, -infinite, -greatest, -greatest, -infinite}, [5]int64{over, over, lost, lost, over}},
		{0x1p128, pastGreatest, alike[int64](over)},
		{math.MaxFloat64, pastGreatest, alike[int64](over)},
		{-math.MaxFloat64, [5]float32{-infinite, -infinite, -greatest, -greatest, -infinite}, alike[int64](over)},
	} {
		for _, mode := range modes {
			y, flags, code := impl.NarrowIn(c.x, mode)
			wantResult(t, fmt.Sprintf("NarrowIn(%v, %d)", c.x, mode), y, flags, code, c.want[mode], c.flags[mode], impl.ErrNone)
		}
	}
}

func TestNarrowOfWhatIsNotFinite(t *testing.T) {
	for _, x := range []float64{math.NaN(), math.Inf(1), math.Inf(-1)} {
		for _, mode := range slices.Concat(noModes, modes) {
			y, flags, code := impl.NarrowIn(x, mode)
			wantResult(t, fmt.Sprintf("NarrowIn(%v, %d)", x, mode), y, flags, code, 0, 0, impl.ErrInvalid)
		}
	}
}
