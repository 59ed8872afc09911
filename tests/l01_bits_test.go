package tests

import (
	"fmt"
	"math"
	"testing"

	"loop.example/g01172/impl"
)

func TestConstantsOfChapter1(t *testing.T) {
	got := []int64{
		impl.ErrNone, impl.ErrInvalid, impl.ErrRange, impl.ErrLimit, impl.ErrNotFound, impl.ErrState,
		impl.ErrSyntax,
		impl.Nearest, impl.Down, impl.Up, impl.ToZero, impl.Outward,
		impl.FlagInexact, impl.FlagTiny, impl.FlagOverflow, impl.FlagInvalid, impl.FlagDivide,
		impl.ClassZero, impl.ClassSubnormal, impl.ClassNormal, impl.ClassInfinite, impl.ClassNaN,
	}
	want := []int64{0, 1, 2, 3, 4, 5, 6, 0, 1, 2, 3, 4, 1, 2, 4, 8, 16, 0, 1, 2, 3, 4}
	for i := range want {
		if got[i] != want[i] {
			t.Errorf("constant %d is %d, want %d", i, got[i], want[i])
		}
	}
}

func TestBitsOfEdgeCases(t *testing.T) {
	for _, c := range []struct {
		x    float32
		bits int64
	}{
		{0, 0},
		{minusZero, 2147483648},
		{leastSubnormal, 1},
		{-leastSubnormal, 2147483649},
		{greatestSubnorm, 8388607},
		{leastNormal, 8388608},
		{-leastNormal, 2155872256},
		{1, 1065353216},
		{-2, 3221225472},
		{greatest, 2139095039},
		{-greatest, 4286578687},
		{infinite, 2139095040},
		{-infinite, 4286578688},
		{notANumber, 2143289344},
	} {
		if n := impl.BitsOf(c.x); n != c.bits {
			t.Errorf("BitsOf(%v) = %d, want %d", c.x, n, c.bits)
		}
		x, code := impl.FloatOfBits(c.bits)
		wantFloat(t, fmt.Sprintf("FloatOfBits(%d)", c.bits), x, code, c.x, impl.ErrNone)
	}
}

func TestFloatsComeBackFromTheirBits(t *testing.T) {
	everyKind(func(x float32) {
		n := impl.BitsOf(x)
		if n != int64(math.Float32bits(x)) {
			t.Errorf("BitsOf(%v) = %d, want %d", x, n, math.Float32bits(x))
		}
		y, code := impl.FloatOfBits(n)
		wantFloat(t, fmt.Sprintf("FloatOfBits(%d)", n), y, code, x, impl.ErrNone)
	})
}

// A stride that is a prime number meets all exponents with ever different fractions.
func TestBitsComeBackFromTheirFloats(t *testing.T) {
	for n := int64(0); n < 1<<32; n += 65537 {
		x, code := impl.FloatOfBits(n)
		if code != impl.ErrNone {
			t.Fatalf("FloatOfBits(%d): code %d", n, code)
		}
		want := n
		if x != x {
			want = 2143289344
		}
		if impl.BitsOf(x) != want {
			t.Fatalf("BitsOf(FloatOfBits(%d)) = %d, want %d", n, impl.BitsOf(x), want)
		}
	}
}

func TestAllNaNAreOneFloat(t *testing.T) {
	for _, n := range []int64{2139095041, 2143289343, 2143289344, 2143289345, 2147483647,
		4286578689, 4290772992, 4294967295} {
		x, code := impl.FloatOfBits(n)
		wantFloat(t, fmt.Sprintf("FloatOfBits(%d)", n), x, code, notANumber, impl.ErrNone)
		if m := impl.BitsOf(math.Float32frombits(uint32(n))); m != 2143289344 {
			t.Errorf("BitsOf of the NaN with the bits %d = %d", n, m)
		}
	}
}

func TestFloatOfBitsRefusesOtherIntegers(t *testing.T) {
	for _, n := range append([]int64{-1, 4294967296, -2147483648, 1065353216 + 1<<32}, extremes...) {
		x, code := impl.FloatOfBits(n)
		wantFloat(t, fmt.Sprintf("FloatOfBits(%d)", n), x, code, 0, impl.ErrRange)
	}
}

func TestClassOf(t *testing.T) {
	for _, c := range []struct {
		x     float32
		class int64
	}{
		{0, impl.ClassZero},
		{leastSubnormal, impl.ClassSubnormal},
		{1e-40, impl.ClassSubnormal},
		{greatestSubnorm, impl.ClassSubnormal},
		{leastNormal, impl.ClassNormal},
		{1, impl.ClassNormal},
		{greatest, impl.ClassNormal},
		{infinite, impl.ClassInfinite},
		{notANumber, impl.ClassNaN},
	} {
		for _, x := range []float32{c.x, float32(math.Copysign(float64(c.x), -1))} {
			if class := impl.ClassOf(x); class != c.class {
				t.Errorf("ClassOf(%v) = %d, want %d", x, class, c.class)
			}
		}
	}
	if class := impl.ClassOf(math.Float32frombits(4286578689)); class != impl.ClassNaN {
		t.Errorf("ClassOf of a NaN with a sign bit = %d", class)
	}
}

func TestPartsOfEdgeCases(t *testing.T) {
	for _, c := range []struct {
		x    float32
		m, e int64
	}{
		{0, 0, -149},
		{minusZero, 0, -149},
		{leastSubnormal, 1, -149},
		{-leastSubnormal, -1, -149},
		{greatestSubnorm, 8388607, -149},
		{leastNormal, 8388608, -149},
		{2 * leastNormal, 8388608, -148},
		{1, 8388608, -23},
		{1.5, 12582912, -23},
		{-1.5, -12582912, -23},
		{16777216, 8388608, 1},
		{greatest, 16777215, 104},
		{-greatest, -16777215, 104},
	} {
		if m, e, code := impl.PartsOf(c.x); m != c.m || e != c.e || code != impl.ErrNone {
			t.Errorf("PartsOf(%v) = %d, %d, %d, want %d, %d", c.x, m, e, code, c.m, c.e)
		}
	}
	for _, x := range []float32{infinite, -infinite, notANumber} {
		if m, e, code := impl.PartsOf(x); m != 0 || e != 0 || code != impl.ErrInvalid {
			t.Errorf("PartsOf(%v) = %d, %d, %d", x, m, e, code)
		}
	}
}

func TestPartsMakeTheirFloat(t *testing.T) {
	everyKind(func(x float32) {
		m, e, code := impl.PartsOf(x)
		if math.IsInf(float64(x), 0) {
			return
		}
		if code != impl.ErrNone || math.Ldexp(float64(m), int(e)) != float64(x) {
			t.Errorf("PartsOf(%v) = %d, %d, %d", x, m, e, code)
		}
		last, code := impl.LastPlace(x)
		wantFloat(t, fmt.Sprintf("LastPlace(%v)", x), last, code, float32(math.Ldexp(1, int(e))), impl.ErrNone)
	})
}
