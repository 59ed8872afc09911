package tests

import (
	"fmt"
	"math"
	"math/big"
	"testing"

	"loop.example/g01172/impl"
)

func TestWidths(t *testing.T) {
	for _, i := range append(someIntervals(), disorderedIntervals(43, 2000)...) {
		want := infinite
		if i.Low != -infinite && i.High != infinite {
			_, want = enclosed(new(big.Rat).Sub(floatRat(i.High), floatRat(i.Low)))
		}
		width, code := impl.WidthOf(i)
		wantFloat(t, fmt.Sprintf("WidthOf(%s)", named(i)), width, code, want, impl.ErrNone)
	}
	for _, e := range []struct {
		i    impl.Interval
		want float32
	}{
		{between(-1, 4), 5},
		{point(0), 0},
		{point(1), 0},
		{point(-1), 0},
		{point(greatest), 0},
		{between(0x1p-30, 1), 1},
		{between(-0x1p-30, 1), 0x1.000002p0},
		{between(0, least), least},
		{between(-least, least), 2 * least},
		{between(0, greatest), greatest},
		{between(-greatest, 0), greatest},
		{between(-least, greatest), infinite},
		{between(-greatest, greatest), infinite},
		{allReals(), infinite},
		{between(0, infinite), infinite},
		{between(-infinite, 0), infinite},
		{between(greatest, infinite), infinite},
		{between(-infinite, -greatest), infinite},
	} {
		width, code := impl.WidthOf(e.i)
		wantFloat(t, fmt.Sprintf("WidthOf(%s)", named(e.i)), width, code, e.want, impl.ErrNone)
	}
}

// middleOf returns the float nearest to the middle, with 0 in the place of -0.
func middleOf(i impl.Interval) float32 {
	sum := new(big.Rat).Add(floatRat(i.Low), floatRat(i.High))
	middle, _ := sum.Mul(sum, step(-1)).Float32()
	return middle + 0
}

func TestMiddlesAndHalves(t *testing.T) {
	for _, i := range append(someIntervals(), disorderedIntervals(45, 2000)...) {
		middle, code := impl.MiddleOf(i)
		call := fmt.Sprintf("MiddleOf(%s)", named(i))
		if i.Low == -infinite || i.High == infinite {
			wantFloat(t, call, middle, code, 0, impl.ErrState)
			wantNoHalves(t, i, impl.ErrState)
			continue
		}
		wantFloat(t, call, middle, code, middleOf(i), impl.ErrNone)
		if middle == i.Low || middle == i.High {
			wantNoHalves(t, i, impl.ErrState)
			continue
		}
		wantHalves(t, i, between(i.Low, middle), between(middle, i.High))
		hull, code := impl.HullOfIntervals(between(i.Low, middle), between(middle, i.High))
		wantInterval(t, fmt.Sprintf("the hull of the halves of %s", named(i)), hull, code, i, impl.ErrNone)
	}
}

func wantHalves(t *testing.T, i, wantLower, wantUpper impl.Interval) {
	t.Helper()
	lower, upper, code := impl.HalvesOf(i)
	call := fmt.Sprintf("HalvesOf(%s)", named(i))
	wantInterval(t, call+", the lower one,", lower, code, wantLower, impl.ErrNone)
	wantInterval(t, call+", the upper one,", upper, code, wantUpper, impl.ErrNone)
}

func wantNoHalves(t *testing.T, i impl.Interval, wantCode int64) {
	t.Helper()
	lower, upper, code := impl.HalvesOf(i)
	call := fmt.Sprintf("HalvesOf(%s)", named(i))
	wantInterval(t, call, lower, code, impl.Interval{}, wantCode)
	wantInterval(t, call, upper, code, impl.Interval{}, wantCode)
}

func TestMiddlesThatAreWrittenOut(t *testing.T) {
	for _, e := range []struct {
		i    impl.Interval
		want float32
	}{
		{between(-1, 4), 1.5},
		{between(1, 2), 1.5},
		{point(1), 1},
		{point(0), 0},
		// The sum is too great for a float.
		{point(greatest), greatest},
		{point(-greatest), -greatest},
		{between(0x1p127, greatest), 0x1.8p127},
		{between(-greatest, -0x1p127), -0x1.8p127},
		{between(0x1.fffffcp127, greatest), 0x1.fffffcp127},
		// -x and x.
		{between(-1, 1), 0},
		{between(-greatest, greatest), 0},
		{between(-least, least), 0},
		// Halves of the least float, rounded to 0, and others between two floats.
		{between(0, least), 0},
		{between(-least, 0), 0},
		{between(least, 2*least), 2 * least},
		{between(-2*least, -least), -2 * least},
		{between(-least, 2*least), 0},
		{between(-2*least, least), 0},
		{between(0, 3*least), 2 * least},
		{between(1, 0x1.000002p0), 1},
		{between(0x1.000002p0, 0x1.000004p0), 0x1.000004p0},
		{between(-0x1.000004p0, -0x1.000002p0), -0x1.000004p0},
		{between(0x1.fffffep0, 0x1.000004p1), 0x1.000002p1},
		{between(0x1p-24, 0x1.000002p1), 0x1.000002p0},
		// The sum of both halves, rounded, is another float.
		{point(least), least},
		{point(3 * least), 3 * least},
		{between(-3*least, least), -least},
	} {
		middle, code := impl.MiddleOf(e.i)
		wantFloat(t, fmt.Sprintf("MiddleOf(%s)", named(e.i)), middle, code, e.want, impl.ErrNone)
	}
}

func TestHalvesThatAreWrittenOut(t *testing.T) {
	for _, e := range []struct{ i, lower, upper impl.Interval }{
		{between(-1, 4), between(-1, 1.5), between(1.5, 4)},
		{between(0, 2*least), between(0, least), between(least, 2*least)},
		{between(-least, least), between(-least, 0), between(0, least)},
		{between(-greatest, greatest), between(-greatest, 0), between(0, greatest)},
		{between(1, 0x1.000004p0), between(1, 0x1.000002p0), between(0x1.000002p0, 0x1.000004p0)},
		{between(-least, 2*least), between(-least, 0), between(0, 2*least)},
	} {
		wantHalves(t, e.i, e.lower, e.upper)
	}
	for _, i := range []impl.Interval{
		// The middle is an end.
		point(0), point(1), point(greatest), between(0, least), between(-least, 0), between(least, 2*least), between(-2*least, -least),
		between(1, 0x1.000002p0), between(0x1.000002p0, 0x1.000004p0), between(0x1.fffffcp127, greatest),
		// An end is infinite.
		allReals(), between(0, infinite), between(-infinite, 0), between(greatest, infinite), between(-infinite, -greatest),
	} {
		wantNoHalves(t, i, impl.ErrState)
	}
}

func TestWidenedIntervals(t *testing.T) {
	for _, i := range append(someIntervals(), disorderedIntervals(47, 1000)...) {
		wide, code := impl.WidenInterval(i)
		want := between(math.Nextafter32(i.Low, -infinite)+0, math.Nextafter32(i.High, infinite)+0)
		wantInterval(t, fmt.Sprintf("WidenInterval(%s)", named(i)), wide, code, want, impl.ErrNone)
		if part, _ := impl.IsPartOf(i, wide); !part || !impl.IsInterval(wide) {
			t.Errorf("%s is no part of the interval %s", named(i), named(wide))
		}
	}
	for _, e := range []struct{ i, want impl.Interval }{
		{point(1), between(0x1.fffffep-1, 0x1.000002p0)},
		{between(-2, 2), between(-0x1.000002p1, 0x1.000002p1)},
		{point(0), between(-least, least)},
		{point(least), between(0, 2*least)},
		{point(-least), between(-2*least, 0)},
		{between(-least, least), between(-2*least, 2*least)},
		{point(greatest), between(0x1.fffffcp127, infinite)},
		{point(-greatest), between(-infinite, -0x1.fffffcp127)},
		{between(-greatest, greatest), allReals()},
		{allReals(), allReals()},
		{between(-infinite, 0), between(-infinite, least)},
		{between(0, infinite), between(-least, infinite)},
		{between(-infinite, greatest), allReals()},
		{point(leastNormal), between(greatestSubnorm, 0x1.000002p-126)},
	} {
		wide, code := impl.WidenInterval(e.i)
		wantInterval(t, fmt.Sprintf("WidenInterval(%s)", named(e.i)), wide, code, e.want, impl.ErrNone)
	}
}
