package tests

import (
	"fmt"
	"math/big"
	"testing"

	"loop.example/g01172/impl"
)

// zeroFused is the zero of a fused product whose exact result is 0.
func zeroFused(x, y, z float32, mode int64) float32 {
	if x == 0 || y == 0 {
		return zeroSum(zeroProduct(x, y, mode), z, mode)
	}
	return zeroSum(1, -1, mode)
}

func wantFused(t *testing.T, x, y, z float32) {
	t.Helper()
	r := new(big.Rat).Mul(floatRat(x), floatRat(y))
	r.Add(r, floatRat(z))
	var results [5]float32
	for _, mode := range modes {
		want, wantFlags := roundedRat(r, mode)
		if r.Sign() == 0 {
			want, wantFlags = zeroFused(x, y, z, mode), 0
		}
		fused, flags, code := impl.FusedIn(x, y, z, mode)
		wantResult(t, fmt.Sprintf("FusedIn(%v, %v, %v, %d)", x, y, z, mode), fused, flags, code, want, wantFlags, impl.ErrNone)
		results[mode] = fused
	}
	wantEnclosed(t, fmt.Sprintf("FusedIn(%v, %v, %v)", x, y, z), results)
}

func TestFusedProductsAgainstExactResults(t *testing.T) {
	some := []float32{
		0, least, 3 * least, greatestSubnorm, leastNormal, 0x1.000002p-63, 0.5, 1, 0x1.000002p0, -0x1.fffffep0, 3, 16777215, 0x1.8p64, greatest,
		minusZero, -least, -leastNormal, -0x1p-12, -1, -4097, -greatest,
	}
	for _, x := range some {
		for _, y := range some {
			for _, z := range some {
				wantFused(t, x, y, z)
			}
		}
	}
}

// Here z is the opposite of the product, as far as it is a float, or next to that.
func TestFusedProductsThatNearlyVanish(t *testing.T) {
	x, y := disordered(11, 500), disordered(12, 500)
	for i := range x {
		r := new(big.Rat).Mul(floatRat(x[i]), floatRat(y[i]))
		for _, z := range nearestTo(r.Neg(r)) {
			wantFused(t, x[i], y[i], z)
		}
	}
}

// The results here are written out, for each mode in the order of the modes.
func wantFusedExamples(t *testing.T, examples []example) {
	t.Helper()
	for _, e := range examples {
		for _, mode := range modes {
			z, flags, code := impl.FusedIn(e.x, e.y, e.z, mode)
			wantResult(t, fmt.Sprintf("FusedIn(%v, %v, %v, %d)", e.x, e.y, e.z, mode), z, flags, code, e.want[mode], e.flags[mode], impl.ErrNone)
		}
	}
}

func TestFusedProductsThatAreZero(t *testing.T) {
	wantFusedExamples(t, []example{
		{x: 0, y: 1, z: 0, want: alike[float32](0)},
		{x: 0, y: 1, z: minusZero, want: openZero},
		{x: minusZero, y: 1, z: 0, want: openZero},
		{x: minusZero, y: 1, z: minusZero, want: alike(minusZero)},
		{x: 0, y: -greatest, z: minusZero, want: alike(minusZero)},
		{x: 0, y: -greatest, z: 0, want: openZero},
		{x: -least, y: minusZero, z: 0, want: alike[float32](0)},
		{x: -least, y: minusZero, z: minusZero, want: openZero},
		{x: 0, y: 0, z: 0, want: alike[float32](0)},
		{x: minusZero, y: 0, z: minusZero, want: alike(minusZero)},
		{x: minusZero, y: 0, z: 0, want: openZero},
		{x: minusZero, y: minusZero, z: minusZero, want: openZero},
		{x: 2, y: 3, z: -6, want: openZero},
		{x: -2, y: 3, z: 6, want: openZero},
		{x: 0x1p-75, y: 0x1p-74, z: -least, want: openZero},
		{x: 4097, y: 4095, z: -16777215, want: openZero},
	})
}

func TestFusedProducts(t *testing.T) {
	wantFusedExamples(t, mirrored([]example{
		{x: 3, y: 4, z: 5, want: alike[float32](17)},
		{x: 0, y: 4, z: 5, want: alike[float32](5)},
		{x: 0, y: -4, z: 5, want: alike[float32](5)},
		{x: minusZero, y: 4, z: least, want: alike(least)},
		{x: 3, y: 0.5, z: minusZero, want: alike[float32](1.5)},
		// The products here have more bits than a float, and are not rounded first.
		{x: 0x1.000002p0, y: 0x1.fffffcp-1, z: -1, want: alike[float32](-0x1p-46)},
		{x: 0x1.000002p0, y: 0x1.000002p0, z: -0x1.000004p0, want: alike[float32](0x1p-46)},
		{x: 16777215, y: 16777215, z: -0x1.fffffcp47, want: alike[float32](1)},
		{x: greatest, y: 2, z: -greatest, want: alike[float32](greatest)},
		{x: 0x1p100, y: 0x1p100, z: -greatest, want: pastGreatest, flags: alike[int64](over)},
		{x: least, y: 0.5, z: least, want: [5]float32{2 * least, least, 2 * least, least, 2 * least}, flags: alike[int64](tiny)},
		{x: least, y: 0.5, z: -least, want: [5]float32{minusZero, -least, minusZero, minusZero, -least}, flags: alike[int64](tiny)},
		{x: least, y: -0.5, z: 2 * least, want: [5]float32{2 * least, least, 2 * least, least, 2 * least}, flags: alike[int64](tiny)},
		// This product, 2^-24 and 2^-60, leads past the half between 1 and the next float, but
		// rounded to 53 bits with z it would be that half.
		{x: 1774001 * 0x1p-30, y: 38737 * 0x1p-30, z: 1, want: [5]float32{0x1.000002p0, 1, 0x1.000002p0, 1, 0x1.000002p0}, flags: alike[int64](lost)},
		{x: least, y: least, z: 1, want: [5]float32{1, 1, 0x1.000002p0, 1, 0x1.000002p0}, flags: alike[int64](lost)},
		{x: -least, y: least, z: 1, want: [5]float32{1, 0x1.fffffep-1, 1, 0x1.fffffep-1, 1}, flags: alike[int64](lost)},
		{x: least, y: least, z: greatest, want: [5]float32{greatest, greatest, infinite, greatest, infinite}, flags: [5]int64{lost, lost, over, lost, over}},
		{x: least, y: least, z: 0, want: [5]float32{0, 0, least, 0, least}, flags: alike[int64](tiny)},
		{x: least, y: least, z: minusZero, want: [5]float32{0, 0, least, 0, least}, flags: alike[int64](tiny)},
	}, turnedProduct))
}
