package tests

import (
	"math"
	"testing"

	"loop.example/g01172/impl"
)

const (
	greatest       = math.MaxFloat32
	leastSubnormal = math.SmallestNonzeroFloat32
	leastNormal    = 0x1p-126
)

var (
	infinite        = float32(math.Inf(1))
	notANumber      = float32(math.NaN())
	minusZero       = float32(math.Copysign(0, -1))
	greatestSubnorm = math.Float32frombits(1<<23 - 1)
)

// extremes are integers outside every range of chapter 1, whose sums and opposites overflow.
var extremes = []int64{math.MinInt64, math.MinInt64 + 1, math.MaxInt64 - 1, math.MaxInt64}

// same tells whether two floats are the same: equal with the same sign of zero, or both NaN.
func same(x, y float32) bool {
	if x != x || y != y {
		return x != x && y != y
	}
	return x == y && math.Signbit(float64(x)) == math.Signbit(float64(y))
}

func sameLists(a, b []float32) bool {
	if len(a) != len(b) {
		return false
	}
	for i := range a {
		if !same(a[i], b[i]) {
			return false
		}
	}
	return true
}

// ascendingFloats returns the floats of the edge cases and some ordinary ones, in the total order
// and without NaN.
func ascendingFloats() []float32 {
	positive := []float32{
		0, leastSubnormal, 2 * leastSubnormal, 3 * leastSubnormal, 1e-40, greatestSubnorm,
		leastNormal, math.Float32frombits(1<<23 + 1), 2 * leastNormal, 1e-10, 0.1, 0.5, 0.75,
		math.Float32frombits(1065353215), 1, math.Float32frombits(1065353217), 1.5, 2, 3,
		8388607.5, 8388608, 8388609, 16777215, 16777216, 16777218, 1e30,
		math.Float32frombits(2139095038), greatest, infinite,
	}
	var all []float32
	for i := len(positive) - 1; i >= 0; i-- {
		all = append(all, -positive[i])
	}
	all[len(all)-1] = minusZero
	return append(all, positive...)
}

// everyKind calls visit with floats of each sign and each exponent, with fractions at both ends
// and some between them; NaN are left out.
func everyKind(visit func(x float32)) {
	for sign := uint32(0); sign < 2; sign++ {
		for exponent := uint32(0); exponent < 255; exponent++ {
			for _, fraction := range []uint32{0, 1, 2, 3, 1 << 22, 5592405, 1<<23 - 2, 1<<23 - 1} {
				visit(math.Float32frombits(sign<<31 | exponent<<23 | fraction))
			}
		}
		visit(math.Float32frombits(sign<<31 | 255<<23))
	}
}

// wantFloat checks a float, with the sign of zero, and a code.
func wantFloat(t *testing.T, call string, x float32, code int64, want float32, wantCode int64) {
	t.Helper()
	if !same(x, want) || code != wantCode {
		t.Errorf("%s = %v (bits %#x), %d, want %v (bits %#x), %d",
			call, x, math.Float32bits(x), code, want, math.Float32bits(want), wantCode)
	}
}

// wantInteger checks an integer and a code.
func wantInteger(t *testing.T, call string, n, code, want, wantCode int64) {
	t.Helper()
	if n != want || code != wantCode {
		t.Errorf("%s = %d, %d, want %d, %d", call, n, code, want, wantCode)
	}
}

// placeOf returns the place of a float that has to have one.
func placeOf(t *testing.T, x float32) int64 {
	t.Helper()
	n, code := impl.PlaceOf(x)
	if code != impl.ErrNone {
		t.Fatalf("PlaceOf(%v): code %d", x, code)
	}
	return n
}
