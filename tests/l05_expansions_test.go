package tests

import (
	"fmt"
	"math"
	"math/big"
	"slices"
	"testing"

	"loop.example/g01172/impl"
)

// wantList checks a list of floats, with the signs of zeros, and a code.
func wantList(t *testing.T, call string, list []float32, code int64, want []float32, wantCode int64) {
	t.Helper()
	if !sameLists(list, want) || code != wantCode {
		t.Errorf("%s = %x, %d, want %x, %d", call, list, code, want, wantCode)
	}
}

func TestValuesSignsAndRoundingsOfExpansions(t *testing.T) {
	for _, list := range someExpansions() {
		value := sumRat(list...)
		d, code := impl.ValueOfExpansion(list)
		wantDyadic(t, fmt.Sprintf("ValueOfExpansion(%v)", list), d, code, value)
		sign, code := impl.SignOfExpansion(list)
		wantInteger(t, fmt.Sprintf("SignOfExpansion(%v)", list), sign, code, int64(value.Sign()), impl.ErrNone)
		for _, mode := range modes {
			want, wantFlags := roundedRat(value, mode)
			x, flags, code := impl.RoundExpansion(list, mode)
			wantResult(t, fmt.Sprintf("RoundExpansion(%v, %d)", list, mode), x, flags, code, want, wantFlags, impl.ErrNone)
		}
	}
}

func TestRoundingsOfExpansionsThatAreWrittenOut(t *testing.T) {
	for _, c := range []struct {
		list  []float32
		want  [5]float32
		flags int64
		sign  int64
	}{
		{list: []float32{0x1p-30, 1}, want: [5]float32{1, 1, 0x1.000002p0, 1, 0x1.000002p0}, flags: lost, sign: 1},
		{list: []float32{-1, -0x1p-30}, want: [5]float32{-1, -0x1.000002p0, -1, -1, -0x1.000002p0}, flags: lost, sign: -1},
		{list: []float32{1, 0x1p-24}, want: [5]float32{1, 1, 0x1.000002p0, 1, 0x1.000002p0}, flags: lost, sign: 1},
		// The last float of all decides.
		{list: []float32{1, 0x1p-24, least}, want: [5]float32{0x1.000002p0, 1, 0x1.000002p0, 1, 0x1.000002p0}, flags: lost, sign: 1},
		{list: []float32{0x1.000002p0, 0x1p-24, -least}, want: [5]float32{0x1.000002p0, 0x1.000002p0, 0x1.000004p0, 0x1.000002p0, 0x1.000004p0}, flags: lost, sign: 1},
		{list: []float32{greatest, -greatest, -least}, want: alike[float32](-least), sign: -1},
		{list: []float32{1, -1, 0x1p-140}, want: alike[float32](0x1p-140), sign: 1},
		// A value of 0 is 0 in each mode.
		{list: []float32{minusZero}, want: alike[float32](0)},
		{list: []float32{minusZero, minusZero}, want: alike[float32](0)},
		{list: []float32{5, -3, -2}, want: alike[float32](0)},
		// Too great for a float.
		{list: []float32{greatest, greatest}, want: pastGreatest, flags: over, sign: 1},
		{list: []float32{-greatest, -greatest}, want: [5]float32{-infinite, -infinite, -greatest, -greatest, -infinite}, flags: over, sign: -1},
		{list: []float32{greatest, 0x1p102}, want: [5]float32{greatest, greatest, infinite, greatest, infinite}, sign: 1, flags: -1},
		{list: []float32{greatest, 0x1p103, -0x1p103}, want: alike[float32](greatest), sign: 1},
	} {
		for _, mode := range modes {
			wantFlags := c.flags
			if wantFlags < 0 {
				wantFlags = lost
				if math.IsInf(float64(c.want[mode]), 0) {
					wantFlags = over
				}
			}
			x, flags, code := impl.RoundExpansion(c.list, mode)
			wantResult(t, fmt.Sprintf("RoundExpansion(%x, %d)", c.list, mode), x, flags, code, c.want[mode], wantFlags, impl.ErrNone)
		}
		sign, code := impl.SignOfExpansion(c.list)
		wantInteger(t, fmt.Sprintf("SignOfExpansion(%x)", c.list), sign, code, c.sign, impl.ErrNone)
	}
}

// wantGrown checks the steps, and that the value is the exact sum.
func wantGrown(t *testing.T, list []float32, x float32) {
	t.Helper()
	s := steps{}
	want, wantCode := []float32{}, int64(impl.ErrNone)
	q := x
	for _, e := range list {
		sum := s.exactSum(q, e)
		want, q = append(want, sum.Low), sum.High
	}
	want = append(want, q)
	if s.failed {
		want, wantCode = nil, impl.ErrLimit
	}
	grown, code := impl.GrowExpansion(list, x)
	call := fmt.Sprintf("GrowExpansion(%x, %x)", list, x)
	wantList(t, call, grown, code, want, wantCode)
	if code == impl.ErrNone && sumRat(grown...).Cmp(sumRat(append(slices.Clone(list), x)...)) != 0 {
		t.Errorf("%s = %x has another value", call, grown)
	}
}

func TestGrowExpansion(t *testing.T) {
	for i, list := range someExpansions() {
		if len(list) == impl.MaxParts {
			continue
		}
		for _, x := range append(disordered(uint64(17+i), 5), 0, minusZero, 1, least, greatest, -greatest, list[0], -list[0], list[len(list)/2]/3) {
			wantGrown(t, list, x)
		}
	}
}

func TestGrownExpansionsThatAreWrittenOut(t *testing.T) {
	for _, c := range []struct {
		list []float32
		x    float32
		want []float32
		code int64
	}{
		{list: []float32{1}, x: 0x1p-30, want: []float32{0x1p-30, 1}},
		{list: []float32{0x1p-30}, x: 1, want: []float32{0x1p-30, 1}},
		{list: []float32{0x1p-30, 1}, x: 16777216, want: []float32{0x1p-30, 1, 16777216}},
		{list: []float32{0x1p-30, 1}, x: 0x1p-60, want: []float32{0x1p-60, 0x1p-30, 1}},
		{list: []float32{1, 2}, x: 4, want: []float32{0, 0, 7}},
		// Zeros: those that are left are 0, and the sum has the sign of the language.
		{list: []float32{0}, x: 0, want: []float32{0, 0}},
		{list: []float32{minusZero}, x: minusZero, want: []float32{0, minusZero}},
		{list: []float32{minusZero, minusZero}, x: minusZero, want: []float32{0, 0, minusZero}},
		{list: []float32{minusZero, 0}, x: minusZero, want: []float32{0, 0, 0}},
		{list: []float32{minusZero, 1}, x: minusZero, want: []float32{0, 0, 1}},
		{list: []float32{1}, x: -1, want: []float32{0, 0}},
		{list: []float32{0x1p-30, 1}, x: -1, want: []float32{0x1p-30, 0, 0}},
		{list: []float32{1, 1, 1, 1, 1, 1, 1}, x: 1, want: []float32{0, 0, 0, 0, 0, 0, 0, 8}},
		// Sums beyond the greatest float, at the end and on the way.
		{list: []float32{greatest}, x: 0x1.fffffep102, want: []float32{0x1.fffffep102, greatest}},
		{list: []float32{greatest}, x: 0x1p103, code: impl.ErrLimit},
		{list: []float32{greatest, -greatest}, x: greatest, code: impl.ErrLimit},
		{list: []float32{-greatest, greatest}, x: greatest, want: []float32{0, 0, greatest}},
		{list: []float32{-greatest, greatest, 1}, x: -greatest, code: impl.ErrLimit},
		{list: []float32{1, 2, -greatest}, x: -greatest, code: impl.ErrLimit},
	} {
		grown, code := impl.GrowExpansion(c.list, c.x)
		wantList(t, fmt.Sprintf("GrowExpansion(%x, %x)", c.list, c.x), grown, code, c.want, c.code)
	}
}

// Grown one by one, 8 floats have their exact sum.
func TestExpansionsGrowToEightFloats(t *testing.T) {
	for i := range 200 {
		floats := disordered(uint64(1000+i), impl.MaxParts)
		for j := range floats {
			floats[j] /= 16 // no sum of 8 of these is infinite
		}
		list, code := floats[:1], int64(impl.ErrNone)
		for _, x := range floats[1:] {
			if list, code = impl.GrowExpansion(list, x); code != impl.ErrNone {
				t.Fatalf("GrowExpansion: code %d for %x", code, floats)
			}
		}
		if len(list) != impl.MaxParts || sumRat(list...).Cmp(sumRat(floats...)) != 0 {
			t.Errorf("%x grow to %x", floats, list)
		}
		list, code = impl.GrowExpansion(list, 1)
		wantList(t, "a ninth float of GrowExpansion", list, code, nil, impl.ErrRange)
	}
}

// compressedRat returns the nearest floats to what is left, again and again.
func compressedRat(value *big.Rat) ([]float32, int64) {
	parts := []float32{}
	left := new(big.Rat).Set(value)
	for {
		x, _ := left.Float32()
		if x-x != 0 || len(parts) == impl.MaxParts {
			return nil, impl.ErrLimit
		}
		parts = append(parts, x)
		if left.Sub(left, floatRat(x)).Sign() == 0 {
			return parts, impl.ErrNone
		}
	}
}

// Nothing is left behind the floats, and they are not more than those of the expansion: one float
// more is never needed.
func TestCompressExpansion(t *testing.T) {
	lengths := map[int]bool{}
	for _, list := range someExpansions() {
		value := sumRat(list...)
		want, wantCode := compressedRat(value)
		parts, code := impl.CompressExpansion(list)
		call := fmt.Sprintf("CompressExpansion(%x)", list)
		wantList(t, call, parts, code, want, wantCode)
		if code != impl.ErrNone {
			continue
		}
		if sumRat(parts...).Cmp(value) != 0 || len(parts) > len(list) {
			t.Errorf("%s = %x", call, parts)
		}
		for i := 1; i < len(parts); i++ {
			if math.Abs(float64(parts[i])) >= math.Abs(float64(parts[i-1])) {
				t.Errorf("%s = %x does not descend", call, parts)
			}
		}
		lengths[len(parts)] = true
		again, code := impl.CompressExpansion(parts)
		wantList(t, fmt.Sprintf("CompressExpansion(%x)", parts), again, code, parts, impl.ErrNone)
	}
	for n := 1; n <= impl.MaxParts; n++ {
		if !lengths[n] {
			t.Errorf("nothing is compressed to %d floats", n)
		}
	}
}

// The value of these floats has as many bits as floats can have that are close together, or has
// them as far apart as they can be.
func TestExpansionsThatCompressToTheMostFloats(t *testing.T) {
	next := noise(18)
	most := 0
	for range 3000 {
		list := make([]float32, impl.MaxParts)
		exponent := 127
		for i := range list {
			list[i] = float32(math.Ldexp(float64(next()%3+1<<24-3), exponent-23))
			if next()%2 == 0 {
				list[i] = -list[i]
			}
			exponent -= 22 + int(next()%12)
			exponent = max(exponent, -126)
		}
		want, wantCode := compressedRat(sumRat(list...))
		parts, code := impl.CompressExpansion(list)
		wantList(t, fmt.Sprintf("CompressExpansion(%x)", list), parts, code, want, wantCode)
		most = max(most, len(parts))
	}
	if most != impl.MaxParts {
		t.Errorf("at most %d floats", most)
	}
}

func TestCompressedExpansionsThatAreWrittenOut(t *testing.T) {
	for _, c := range []struct {
		list []float32
		want []float32
		code int64
	}{
		{list: []float32{1, 2, 0x1p-40, 0}, want: []float32{3, 0x1p-40}},
		{list: []float32{0x1p-30, 1}, want: []float32{1, 0x1p-30}},
		{list: []float32{0}, want: []float32{0}},
		{list: []float32{minusZero}, want: []float32{0}},
		{list: []float32{minusZero, minusZero, 0}, want: []float32{0}},
		{list: []float32{1, -1}, want: []float32{0}},
		{list: []float32{5, -3, -2, minusZero}, want: []float32{0}},
		{list: []float32{1, least, -1}, want: []float32{least}},
		{list: []float32{-7, minusZero}, want: []float32{-7}},
		// Half between two floats, and just beyond it.
		{list: []float32{0x1p-24, 1}, want: []float32{1, 0x1p-24}},
		{list: []float32{0x1p-24, 0x1.000002p0}, want: []float32{0x1.000004p0, -0x1p-24}},
		{list: []float32{least, 0x1p-24, 1}, want: []float32{0x1.000002p0, -0x1p-24, least}},
		{list: []float32{1, 1, 1, 1, 1, 1, 1, 1}, want: []float32{8}},
		{list: []float32{0x1p-149, 0x1p-100, 0x1p-60, 0x1p-20, 0x1p10, 0x1p40, 0x1p80, 0x1p120}, want: []float32{0x1p120, 0x1p80, 0x1p40, 0x1p10, 0x1p-20, 0x1p-60, 0x1p-100, 0x1p-149}},
		// The first float is next to the greatest one or beyond it.
		{list: []float32{greatest, 0x1p102}, want: []float32{greatest, 0x1p102}},
		{list: []float32{greatest, 0x1p102, 0x1p102}, code: impl.ErrLimit},
		{list: []float32{greatest, 0x1p102, 0x1p102, -least}, want: []float32{greatest, 0x1p103, -least}},
		{list: []float32{greatest, greatest}, code: impl.ErrLimit},
		{list: []float32{-greatest, -greatest, -greatest, -greatest, -greatest, -greatest, -greatest, -greatest}, code: impl.ErrLimit},
		{list: []float32{greatest, greatest, -greatest}, want: []float32{greatest}},
	} {
		parts, code := impl.CompressExpansion(c.list)
		wantList(t, fmt.Sprintf("CompressExpansion(%x)", c.list), parts, code, c.want, c.code)
	}
}
