package tests

import (
	"fmt"
	"testing"

	"loop.example/g01172/impl"
)

const lastPlaceOfAll = 2139095040

func TestPlaceOfEdgeCases(t *testing.T) {
	for _, c := range []struct {
		x     float32
		place int64
	}{
		{0, 0},
		{leastSubnormal, 1},
		{-leastSubnormal, -1},
		{greatestSubnorm, 8388607},
		{leastNormal, 8388608},
		{-leastNormal, -8388608},
		{1, 1065353216},
		{-1, -1065353216},
		{greatest, 2139095039},
		{-greatest, -2139095039},
		{infinite, lastPlaceOfAll},
		{-infinite, -lastPlaceOfAll},
	} {
		n, code := impl.PlaceOf(c.x)
		wantInteger(t, fmt.Sprintf("PlaceOf(%v)", c.x), n, code, c.place, impl.ErrNone)
		x, code := impl.FloatAtPlace(c.place)
		wantFloat(t, fmt.Sprintf("FloatAtPlace(%d)", c.place), x, code, c.x, impl.ErrNone)
	}
	n, code := impl.PlaceOf(minusZero)
	wantInteger(t, "PlaceOf(-0)", n, code, 0, impl.ErrNone)
	n, code = impl.PlaceOf(notANumber)
	wantInteger(t, "PlaceOf(NaN)", n, code, 0, impl.ErrInvalid)
}

func TestFloatAtPlaceRefusesOtherIntegers(t *testing.T) {
	for _, n := range append([]int64{lastPlaceOfAll + 1, -lastPlaceOfAll - 1, 1 << 31, -1 << 31, 1 << 32}, extremes...) {
		x, code := impl.FloatAtPlace(n)
		wantFloat(t, fmt.Sprintf("FloatAtPlace(%d)", n), x, code, 0, impl.ErrRange)
	}
}

func TestFloatsComeBackFromTheirPlaces(t *testing.T) {
	everyKind(func(x float32) {
		y, code := impl.FloatAtPlace(placeOf(t, x))
		want := x
		if x == 0 {
			want = 0
		}
		wantFloat(t, fmt.Sprintf("FloatAtPlace(PlaceOf(%v))", x), y, code, want, impl.ErrNone)
	})
}

func TestPlacesComeBackFromTheirFloats(t *testing.T) {
	before := -infinite
	for n := int64(-lastPlaceOfAll); n <= lastPlaceOfAll; n += 65537 {
		x, code := impl.FloatAtPlace(n)
		if code != impl.ErrNone || placeOf(t, x) != n {
			t.Fatalf("FloatAtPlace(%d) = %v, %d", n, x, code)
		}
		if n > -lastPlaceOfAll && !(before < x) {
			t.Fatalf("the float %v at the place %d is not greater than %v", x, n, before)
		}
		before = x
	}
}

func TestNeighboursOfEdgeCases(t *testing.T) {
	for _, c := range []struct{ x, down, up float32 }{
		{-infinite, -infinite, -greatest},
		{-leastNormal, -0x1.000002p-126, -greatestSubnorm},
		{-leastSubnormal, -2 * leastSubnormal, 0},
		{minusZero, -leastSubnormal, leastSubnormal},
		{0, -leastSubnormal, leastSubnormal},
		{leastSubnormal, 0, 2 * leastSubnormal},
		{greatestSubnorm, 0x1.fffff8p-127, leastNormal},
		{leastNormal, greatestSubnorm, 0x1.000002p-126},
		{1, 0x1.fffffep-1, 0x1.000002p0},
		{-1, -0x1.000002p0, -0x1.fffffep-1},
		{greatest, 0x1.fffffcp127, infinite},
		{-greatest, -infinite, -0x1.fffffcp127},
		{infinite, greatest, infinite},
	} {
		y, code := impl.NextUp(c.x)
		wantFloat(t, fmt.Sprintf("NextUp(%v)", c.x), y, code, c.up, impl.ErrNone)
		y, code = impl.NextDown(c.x)
		wantFloat(t, fmt.Sprintf("NextDown(%v)", c.x), y, code, c.down, impl.ErrNone)
	}
	y, code := impl.NextUp(notANumber)
	wantFloat(t, "NextUp(NaN)", y, code, 0, impl.ErrInvalid)
	y, code = impl.NextDown(notANumber)
	wantFloat(t, "NextDown(NaN)", y, code, 0, impl.ErrInvalid)
}

func TestNeighboursUndoEachOther(t *testing.T) {
	everyKind(func(x float32) {
		up, _ := impl.NextUp(x)
		down, _ := impl.NextDown(x)
		want := x
		if x == 0 {
			want = 0
		}
		if x < infinite {
			if !(x < up) || placeOf(t, up) != placeOf(t, x)+1 {
				t.Errorf("NextUp(%v) = %v", x, up)
			}
			back, code := impl.NextDown(up)
			wantFloat(t, fmt.Sprintf("NextDown(NextUp(%v))", x), back, code, want, impl.ErrNone)
		}
		if x > -infinite {
			if !(down < x) || placeOf(t, down) != placeOf(t, x)-1 {
				t.Errorf("NextDown(%v) = %v", x, down)
			}
			back, code := impl.NextUp(down)
			wantFloat(t, fmt.Sprintf("NextUp(NextDown(%v))", x), back, code, want, impl.ErrNone)
		}
	})
}

func TestPlacesBetween(t *testing.T) {
	for _, c := range []struct {
		x, y   float32
		places int64
	}{
		{0, minusZero, 0},
		{1, 1, 0},
		{1, 0x1.000002p0, 1},
		{-leastSubnormal, leastSubnormal, 2},
		{minusZero, leastNormal, 8388608},
		{1, 2, 8388608},
		{-1, 1, 2130706432},
		{-greatest, greatest, 4278190078},
	} {
		n, code := impl.PlacesBetween(c.x, c.y)
		wantInteger(t, fmt.Sprintf("PlacesBetween(%v, %v)", c.x, c.y), n, code, c.places, impl.ErrNone)
		n, code = impl.PlacesBetween(c.y, c.x)
		wantInteger(t, fmt.Sprintf("PlacesBetween(%v, %v)", c.y, c.x), n, code, c.places, impl.ErrNone)
	}
	for _, x := range []float32{infinite, -infinite, notANumber} {
		n, code := impl.PlacesBetween(x, 1)
		wantInteger(t, fmt.Sprintf("PlacesBetween(%v, 1)", x), n, code, 0, impl.ErrInvalid)
		n, code = impl.PlacesBetween(1, x)
		wantInteger(t, fmt.Sprintf("PlacesBetween(1, %v)", x), n, code, 0, impl.ErrInvalid)
	}
}

func TestLastPlace(t *testing.T) {
	for _, c := range []struct{ x, last float32 }{
		{0, leastSubnormal},
		{minusZero, leastSubnormal},
		{leastSubnormal, leastSubnormal},
		{-greatestSubnorm, leastSubnormal},
		{leastNormal, leastSubnormal},
		{2 * leastNormal, 2 * leastSubnormal},
		{1, 0x1p-23},
		{-1, 0x1p-23},
		{0x1.fffffep-1, 0x1p-24},
		{8388608, 1},
		{greatest, 0x1p104},
		{-greatest, 0x1p104},
	} {
		last, code := impl.LastPlace(c.x)
		wantFloat(t, fmt.Sprintf("LastPlace(%v)", c.x), last, code, c.last, impl.ErrNone)
	}
	for _, x := range []float32{infinite, -infinite, notANumber} {
		last, code := impl.LastPlace(x)
		wantFloat(t, fmt.Sprintf("LastPlace(%v)", x), last, code, 0, impl.ErrInvalid)
	}
}

func TestCompareFloats(t *testing.T) {
	all := ascendingFloats()
	for i, x := range all {
		for j, y := range all {
			want := int64(0)
			if i < j {
				want = -1
			} else if i > j {
				want = 1
			}
			if x == 0 && y == 0 {
				want = 0
			}
			n, code := impl.CompareFloats(x, y)
			wantInteger(t, fmt.Sprintf("CompareFloats(%v, %v)", x, y), n, code, want, impl.ErrNone)
		}
		n, code := impl.CompareFloats(x, notANumber)
		wantInteger(t, fmt.Sprintf("CompareFloats(%v, NaN)", x), n, code, 0, impl.ErrInvalid)
		n, code = impl.CompareFloats(notANumber, x)
		wantInteger(t, fmt.Sprintf("CompareFloats(NaN, %v)", x), n, code, 0, impl.ErrInvalid)
	}
	n, code := impl.CompareFloats(notANumber, notANumber)
	wantInteger(t, "CompareFloats(NaN, NaN)", n, code, 0, impl.ErrInvalid)
}

func TestTotalLess(t *testing.T) {
	all := append(ascendingFloats(), notANumber)
	for i, x := range all {
		for j, y := range all {
			if less := impl.TotalLess(x, y); less != (i < j) {
				t.Errorf("TotalLess(%v, %v) = %v", x, y, less)
			}
		}
	}
}
