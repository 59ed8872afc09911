package tests

import (
	"fmt"
	"math"
	"math/big"
	"testing"

	"loop.example/g01172/impl"
)

func TestScaleFloatEdgeCases(t *testing.T) {
	for _, c := range []struct {
		x    float32
		k    int64
		want float32
	}{
		{1, 0, 1},
		{-3, 4, -48},
		{1, 127, 0x1p127},
		{greatest, 0, greatest},
		{greatest, -253, 0x1.fffffep-126},
		{leastSubnormal, 276, 0x1p127},
		{-leastSubnormal, 149, -1},
		{greatestSubnorm, 1, 0x1.fffffcp-126},
		{0, 400, 0},
		{0, -400, 0},
		{minusZero, 400, minusZero},
		{minusZero, -400, minusZero},
		{1, -400, 0},
		{-1, -400, minusZero},
		{greatest, -400, 0},
		{-greatest, -400, minusZero},
		{leastSubnormal, -400, 0},
		{1, -126, leastNormal},
		{1, -149, leastSubnormal},
		{3, -150, 2 * leastSubnormal},
	} {
		x, code := impl.ScaleFloat(c.x, c.k)
		wantFloat(t, fmt.Sprintf("ScaleFloat(%v, %d)", c.x, c.k), x, code, c.want, impl.ErrNone)
	}
}

// Halfway between two floats the one with an even fraction is taken, and just beside it the
// nearer one.
func TestScaleFloatHalfwayBetweenFloats(t *testing.T) {
	for _, c := range []struct {
		x    float32
		k    int64
		want float32
	}{
		{1, -150, 0},
		{-1, -150, minusZero},
		{0x1.000002p0, -150, leastSubnormal},
		{-0x1.000002p0, -150, -leastSubnormal},
		{0x1.fffffep-1, -150, 0},
		{leastSubnormal, -1, 0},
		{-leastSubnormal, -1, minusZero},
		{3 * leastSubnormal, -1, 2 * leastSubnormal},
		{5 * leastSubnormal, -1, 2 * leastSubnormal},
		{7 * leastSubnormal, -1, 4 * leastSubnormal},
		{-7 * leastSubnormal, -1, -4 * leastSubnormal},
		{0x1.000002p-126, -1, 0x1p-127},
		{0x1.000006p-126, -1, 0x1.000008p-127},
		{0x1.fffffep-126, -1, leastNormal},
		{-0x1.fffffep-126, -1, -leastNormal},
	} {
		x, code := impl.ScaleFloat(c.x, c.k)
		wantFloat(t, fmt.Sprintf("ScaleFloat(%v, %d)", c.x, c.k), x, code, c.want, impl.ErrNone)
	}
}

// The reference rounds the exact product once, to the nearest float, of two the even one.
func TestScaleFloatAgainstExactProducts(t *testing.T) {
	scales := []int64{-400, -277, -276, -150, -149, -127, -126, -25, -24, -23, -2, -1, 0, 1, 2, 23, 24, 126, 127, 276, 277, 400}
	everyKind(func(x float32) {
		if math.IsInf(float64(x), 0) {
			return
		}
		for _, k := range scales {
			exact := new(big.Float).SetMantExp(new(big.Float).SetFloat64(float64(x)), int(k))
			want, _ := exact.Float32()
			wantCode := int64(impl.ErrNone)
			if math.IsInf(float64(want), 0) {
				want, wantCode = 0, impl.ErrLimit
			}
			y, code := impl.ScaleFloat(x, k)
			wantFloat(t, fmt.Sprintf("ScaleFloat(%v, %d)", x, k), y, code, want, wantCode)
		}
	})
}

func TestScaleFloatErrorsInTheirOrder(t *testing.T) {
	beyond := append([]int64{-401, 401, 1 << 32, -1 << 32}, extremes...)
	for _, k := range beyond {
		for _, x := range []float32{0, minusZero, 1, greatest} {
			y, code := impl.ScaleFloat(x, k)
			wantFloat(t, fmt.Sprintf("ScaleFloat(%v, %d)", x, k), y, code, 0, impl.ErrRange)
		}
	}
	for _, k := range append(beyond, 0, 400) {
		for _, x := range []float32{infinite, -infinite, notANumber} {
			y, code := impl.ScaleFloat(x, k)
			wantFloat(t, fmt.Sprintf("ScaleFloat(%v, %d)", x, k), y, code, 0, impl.ErrInvalid)
		}
	}
	for _, c := range []struct {
		x float32
		k int64
	}{{1, 128}, {-1, 128}, {greatest, 1}, {-greatest, 1}, {1, 400}, {leastSubnormal, 277}, {leastSubnormal, 400}, {0x1p127, 1}} {
		y, code := impl.ScaleFloat(c.x, c.k)
		wantFloat(t, fmt.Sprintf("ScaleFloat(%v, %d)", c.x, c.k), y, code, 0, impl.ErrLimit)
	}
}

func TestIsWholeFloat(t *testing.T) {
	for _, c := range []struct {
		x    float32
		want bool
	}{
		{0, true}, {minusZero, true}, {1, true}, {-3, true}, {1.5, false}, {-0.5, false},
		{leastSubnormal, false}, {-greatestSubnorm, false}, {leastNormal, false},
		{0x1.fffffep-1, false}, {8388607.5, false}, {-8388607.5, false}, {8388608, true},
		{16777217, true}, {1e30, true}, {greatest, true}, {-greatest, true},
	} {
		if ok, code := impl.IsWholeFloat(c.x); ok != c.want || code != impl.ErrNone {
			t.Errorf("IsWholeFloat(%v) = %v, %d", c.x, ok, code)
		}
	}
	for _, x := range []float32{infinite, -infinite, notANumber} {
		if ok, code := impl.IsWholeFloat(x); ok || code != impl.ErrInvalid {
			t.Errorf("IsWholeFloat(%v) = %v, %d", x, ok, code)
		}
	}
}
