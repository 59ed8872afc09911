package tests

import (
	"testing"

	"loop.example/g01172/impl"
)

// The results here are written out, for each mode in the order of the modes.

func TestSumsThatAreZero(t *testing.T) {
	wantExamples(t, operations[sumKind], []example{
		{x: 0, y: 0, want: alike[float32](0)},
		{x: minusZero, y: minusZero, want: alike(minusZero)},
		{x: 0, y: minusZero, want: openZero},
		{x: minusZero, y: 0, want: openZero},
		{x: 1, y: -1, want: openZero},
		{x: -1, y: 1, want: openZero},
		{x: least, y: -least, want: openZero},
		{x: -leastNormal, y: leastNormal, want: openZero},
		{x: greatest, y: -greatest, want: openZero},
	})
}

func TestDifferencesThatAreZero(t *testing.T) {
	wantExamples(t, operations[differenceKind], []example{
		{x: 0, y: 0, want: openZero},
		{x: minusZero, y: minusZero, want: openZero},
		{x: 0, y: minusZero, want: alike[float32](0)},
		{x: minusZero, y: 0, want: alike(minusZero)},
		{x: 1, y: 1, want: openZero},
		{x: -1, y: -1, want: openZero},
		{x: least, y: least, want: openZero},
		{x: -greatest, y: -greatest, want: openZero},
	})
}

func TestProductsThatAreZero(t *testing.T) {
	for _, size := range []float32{0, 1, least, leastNormal, greatest} {
		wantExamples(t, operations[productKind], []example{
			{x: 0, y: size, want: alike[float32](0)},
			{x: minusZero, y: size, want: alike(minusZero)},
			{x: 0, y: turned(size), want: alike(minusZero)},
			{x: minusZero, y: turned(size), want: alike[float32](0)},
			{x: size, y: 0, want: alike[float32](0)},
			{x: size, y: minusZero, want: alike(minusZero)},
			{x: turned(size), y: 0, want: alike(minusZero)},
			{x: turned(size), y: minusZero, want: alike[float32](0)},
		})
	}
}

func TestQuotientsThatAreZero(t *testing.T) {
	for _, size := range []float32{1, least, leastNormal, greatest} {
		wantExamples(t, operations[quotientKind], []example{
			{x: 0, y: size, want: alike[float32](0)},
			{x: minusZero, y: size, want: alike(minusZero)},
			{x: 0, y: -size, want: alike(minusZero)},
			{x: minusZero, y: -size, want: alike[float32](0)},
		})
	}
}

func TestSums(t *testing.T) {
	examples := mirrored([]example{
		{x: 1, y: 2, want: alike[float32](3)},
		{x: 3, y: 0, want: alike[float32](3)},
		{x: 3, y: minusZero, want: alike[float32](3)},
		{x: least, y: 2 * least, want: alike(3 * least)},
		{x: greatestSubnorm, y: least, want: alike[float32](leastNormal)},
		{x: 1, y: 0x1p-30, want: [5]float32{1, 1, 0x1.000002p0, 1, 0x1.000002p0}, flags: alike[int64](lost)},
		{x: 1, y: least, want: [5]float32{1, 1, 0x1.000002p0, 1, 0x1.000002p0}, flags: alike[int64](lost)},
		{x: 0x1.000002p0, y: -0x1p-30, want: [5]float32{0x1.000002p0, 1, 0x1.000002p0, 1, 0x1.000002p0}, flags: alike[int64](lost)},
		{x: 1, y: -least, want: [5]float32{1, 0x1.fffffep-1, 1, 0x1.fffffep-1, 1}, flags: alike[int64](lost)},
		{x: 1, y: -0x1p-25, want: [5]float32{1, 0x1.fffffep-1, 1, 0x1.fffffep-1, 1}, flags: alike[int64](lost)},
		{x: 1, y: 0x1p-24, want: [5]float32{1, 1, 0x1.000002p0, 1, 0x1.000002p0}, flags: alike[int64](lost)},
		{x: 0x1.000002p0, y: 0x1p-24, want: [5]float32{0x1.000004p0, 0x1.000002p0, 0x1.000004p0, 0x1.000002p0, 0x1.000004p0}, flags: alike[int64](lost)},
		{x: 16777216, y: 1, want: [5]float32{16777216, 16777216, 16777218, 16777216, 16777218}, flags: alike[int64](lost)},
		{x: 16777218, y: 1, want: [5]float32{16777220, 16777218, 16777220, 16777218, 16777220}, flags: alike[int64](lost)},
		{x: greatest, y: greatest, want: pastGreatest, flags: alike[int64](over)},
		{x: greatest, y: 0x1p104, want: pastGreatest, flags: alike[int64](over)},
		{x: greatest, y: 0x1p103, want: pastGreatest, flags: [5]int64{over, lost, over, lost, over}},
		{x: greatest, y: 0x1.fffffep102, want: [5]float32{greatest, greatest, infinite, greatest, infinite}, flags: [5]int64{lost, lost, over, lost, over}},
		{x: greatest, y: 1, want: [5]float32{greatest, greatest, infinite, greatest, infinite}, flags: [5]int64{lost, lost, over, lost, over}},
	}, turnedSum)
	wantExamples(t, operations[sumKind], examples)
	for i, e := range examples {
		examples[i].x, examples[i].y = e.y, e.x
	}
	wantExamples(t, operations[sumKind], examples)
	for i, e := range examples {
		examples[i].x, examples[i].y = e.y, turned(e.x)
	}
	wantExamples(t, operations[differenceKind], examples)
}

func TestProducts(t *testing.T) {
	wantExamples(t, operations[productKind], mirrored([]example{
		{x: 1.5, y: 2, want: alike[float32](3)},
		{x: 0x1p-75, y: 0x1p-74, want: alike(least)},
		{x: 0x1p-64, y: 0x1.8p-64, want: alike[float32](0x1.8p-128)},
		{x: 4097, y: 4097, want: [5]float32{16785408, 16785408, 16785410, 16785408, 16785410}, flags: alike[int64](lost)},
		{x: 0x1.000002p0, y: 1.5, want: [5]float32{0x1.800004p0, 0x1.800002p0, 0x1.800004p0, 0x1.800002p0, 0x1.800004p0}, flags: alike[int64](lost)},
		{x: 0x1.000002p0, y: 0x1.000002p0, want: [5]float32{0x1.000004p0, 0x1.000004p0, 0x1.000006p0, 0x1.000004p0, 0x1.000006p0}, flags: alike[int64](lost)},
		{x: least, y: 0.25, want: [5]float32{0, 0, least, 0, least}, flags: alike[int64](tiny)},
		{x: least, y: 0.5, want: [5]float32{0, 0, least, 0, least}, flags: alike[int64](tiny)},
		{x: least, y: 0x1.000002p-1, want: [5]float32{least, 0, least, 0, least}, flags: alike[int64](tiny)},
		{x: least, y: 0.75, want: [5]float32{least, 0, least, 0, least}, flags: alike[int64](tiny)},
		{x: least, y: least, want: [5]float32{0, 0, least, 0, least}, flags: alike[int64](tiny)},
		{x: 0x1p-75, y: 0x1p-75, want: [5]float32{0, 0, least, 0, least}, flags: alike[int64](tiny)},
		{x: 3 * least, y: 0.5, want: [5]float32{2 * least, least, 2 * least, least, 2 * least}, flags: alike[int64](tiny)},
		{x: 5 * least, y: 0.5, want: [5]float32{2 * least, 2 * least, 3 * least, 2 * least, 3 * least}, flags: alike[int64](tiny)},
		{x: 0x1.fffffep-126, y: 0.5, want: [5]float32{leastNormal, greatestSubnorm, leastNormal, greatestSubnorm, leastNormal}, flags: alike[int64](tiny)},
		{x: 0x1.000002p-126, y: 0x1.000002p0, want: [5]float32{0x1.000004p-126, 0x1.000004p-126, 0x1.000006p-126, 0x1.000004p-126, 0x1.000006p-126}, flags: alike[int64](lost)},
		{x: 0x1p64, y: 0x1p64, want: pastGreatest, flags: alike[int64](over)},
		{x: greatest, y: greatest, want: pastGreatest, flags: alike[int64](over)},
		{x: greatest, y: 0x1.000002p0, want: pastGreatest, flags: alike[int64](over)},
		{x: 0x1.fffffcp63, y: 0x1.000002p64, want: pastGreatest, flags: [5]int64{over, lost, over, lost, over}},
		{x: 0x1.000b52p63, y: 0x1.ffe95cp64, want: [5]float32{greatest, greatest, infinite, greatest, infinite}, flags: [5]int64{lost, lost, over, lost, over}},
		{x: 0x1.001p64, y: 0x1.ffep63, want: alike[float32](greatest)},
	}, turnedProduct))
}

func TestQuotients(t *testing.T) {
	const third, above = 0x1.555554p-2, 0x1.555556p-2
	wantExamples(t, operations[quotientKind], mirrored([]example{
		{x: 3, y: 2, want: alike[float32](1.5)},
		{x: 1, y: 3, want: [5]float32{above, third, above, third, above}, flags: alike[int64](lost)},
		{x: 2, y: 3, want: [5]float32{2 * above, 2 * third, 2 * above, 2 * third, 2 * above}, flags: alike[int64](lost)},
		{x: greatest, y: 1, want: alike[float32](greatest)},
		{x: greatest, y: greatest, want: alike[float32](1)},
		{x: least, y: least, want: alike[float32](1)},
		{x: leastNormal, y: 2, want: alike[float32](0x1p-127)},
		{x: least, y: 2, want: [5]float32{0, 0, least, 0, least}, flags: alike[int64](tiny)},
		{x: least, y: greatest, want: [5]float32{0, 0, least, 0, least}, flags: alike[int64](tiny)},
		{x: least, y: 1.5, want: [5]float32{least, 0, least, 0, least}, flags: alike[int64](tiny)},
		{x: 3 * least, y: 2, want: [5]float32{2 * least, least, 2 * least, least, 2 * least}, flags: alike[int64](tiny)},
		{x: 5 * least, y: 2, want: [5]float32{2 * least, 2 * least, 3 * least, 2 * least, 3 * least}, flags: alike[int64](tiny)},
		{x: leastNormal, y: 3, want: [5]float32{2796203 * least, 2796202 * least, 2796203 * least, 2796202 * least, 2796203 * least}, flags: alike[int64](tiny)},
		{x: 1, y: least, want: pastGreatest, flags: alike[int64](over)},
		{x: greatest, y: least, want: pastGreatest, flags: alike[int64](over)},
		{x: greatest, y: 0x1.fffffep-1, want: pastGreatest, flags: alike[int64](over)},
		// Rounded to 24 bits first, this is 1.5 times the least float, which would be rounded up.
		{x: 0x1.7ffffep-125, y: 16777215, want: [5]float32{least, least, 2 * least, least, 2 * least}, flags: alike[int64](tiny)},
		// This is less than a float by about 2^-47.
		{x: 0x1.fffffap0, y: 0x1.fffffcp0, want: [5]float32{0x1.fffffep-1, 0x1.fffffcp-1, 0x1.fffffep-1, 0x1.fffffcp-1, 0x1.fffffep-1}, flags: alike[int64](lost)},
	}, turnedProduct))
}

func TestSpreadOfExamples(t *testing.T) {
	for _, c := range []struct {
		x, y      float32
		kind      int64
		low, high float32
	}{
		{1, 3, 0, 4, 4},
		{1, 3, 1, -2, -2},
		{1, 3, 2, 3, 3},
		{1, 3, 3, 0x1.555554p-2, 0x1.555556p-2},
		{-1, 3, 3, -0x1.555556p-2, -0x1.555554p-2},
		{1, least, 0, 1, 0x1.000002p0},
		{1, least, 1, 0x1.fffffep-1, 1},
		{1, 1, 1, minusZero, 0},
		{0, 0, 0, 0, 0},
		{0, 0, 1, minusZero, 0},
		{0, -1, 2, minusZero, minusZero},
		{minusZero, -1, 3, 0, 0},
		{-least, 0.5, 2, -least, minusZero},
		{greatest, greatest, 0, greatest, infinite},
		{-greatest, greatest, 1, -infinite, -greatest},
		{greatest, 2, 2, greatest, infinite},
		{-1, least, 3, -infinite, -greatest},
	} {
		low, high, code := impl.SpreadOf(c.x, c.y, c.kind)
		wantFloat(t, "the low float of SpreadOf", low, code, c.low, impl.ErrNone)
		wantFloat(t, "the high float of SpreadOf", high, code, c.high, impl.ErrNone)
	}
}
