package tests

import (
	"fmt"
	"math"
	"math/big"
	"testing"

	"loop.example/g01172/impl"
)

// allEnds are floats of all kinds, NaN, -0 and infinite ones among them.
func allEnds() []float32 {
	return append(someEnds, minusZero, notANumber, math.Float32frombits(0xff812345), math.Nextafter32(1, 2), -3*least, -greatestSubnorm)
}

// isInterval follows the definition: a Low that is finite or infinite below, a High that is finite
// or infinite above, neither of them -0 or NaN, and in their order.
func isInterval(low, high float32) bool {
	for _, x := range []float32{low, high} {
		if x != x || x == 0 && isMinus(x) {
			return false
		}
	}
	return low != infinite && high != -infinite && low <= high
}

func TestIsInterval(t *testing.T) {
	for _, low := range allEnds() {
		for _, high := range allEnds() {
			if got := impl.IsInterval(between(low, high)); got != isInterval(low, high) {
				t.Errorf("IsInterval(%s) = %v", named(between(low, high)), got)
			}
		}
	}
	for _, i := range noIntervals() {
		if impl.IsInterval(i) {
			t.Errorf("%s is an interval", named(i))
		}
	}
	for _, i := range []impl.Interval{{}, allReals(), between(-infinite, 0), between(0, infinite), between(-infinite, -greatest), between(greatest, infinite), point(greatest), point(-least)} {
		if !impl.IsInterval(i) {
			t.Errorf("%s is no interval", named(i))
		}
	}
}

func TestIntervalOf(t *testing.T) {
	for _, x := range allEnds() {
		for _, y := range allEnds() {
			want, wantCode := between(x+0, y+0), int64(impl.ErrNone)
			if !isInterval(x+0, y+0) {
				want, wantCode = impl.Interval{}, impl.ErrRange
			}
			i, code := impl.IntervalOf(x, y)
			wantInterval(t, fmt.Sprintf("IntervalOf(%x, %x)", x, y), i, code, want, wantCode)
		}
	}
}

func TestIntervalOfZerosAndInfiniteFloats(t *testing.T) {
	for _, e := range []struct {
		x, y float32
		want impl.Interval
		code int64
	}{
		{x: 1, y: 2, want: between(1, 2)},
		{x: minusZero, y: minusZero},
		{x: minusZero, y: 0},
		{x: 0, y: minusZero},
		{x: minusZero, y: 1, want: between(0, 1)},
		{x: -1, y: minusZero, want: between(-1, 0)},
		{x: -infinite, y: infinite, want: allReals()},
		{x: -infinite, y: minusZero, want: between(-infinite, 0)},
		{x: minusZero, y: infinite, want: between(0, infinite)},
		{x: 2, y: 1, code: impl.ErrRange},
		{x: 0, y: -least, code: impl.ErrRange},
		{x: minusZero, y: -least, code: impl.ErrRange},
		{x: infinite, y: infinite, code: impl.ErrRange},
		{x: -infinite, y: -infinite, code: impl.ErrRange},
		{x: infinite, y: -infinite, code: impl.ErrRange},
		{x: notANumber, y: 1, code: impl.ErrRange},
		{x: 1, y: notANumber, code: impl.ErrRange},
		{x: notANumber, y: minusZero, code: impl.ErrRange},
	} {
		i, code := impl.IntervalOf(e.x, e.y)
		wantInterval(t, fmt.Sprintf("IntervalOf(%x, %x)", e.x, e.y), i, code, e.want, e.code)
	}
}

// A hull with an end of its own would not be the least one.
func TestHulls(t *testing.T) {
	intervalPairs(func(i, j impl.Interval) {
		hull, code := impl.HullOfIntervals(i, j)
		call := callOfTwo("HullOfIntervals", i, j)
		if code != impl.ErrNone || !impl.IsInterval(hull) || !isPart(i, hull) || !isPart(j, hull) {
			t.Errorf("%s = %s, %d", call, named(hull), code)
		}
		if hull.Low != i.Low && hull.Low != j.Low || hull.High != i.High && hull.High != j.High {
			t.Errorf("%s = %s is not the least one", call, named(hull))
		}
	})
	for _, e := range []intervalExample{
		{between(1, 2), between(5, 6), between(1, 6)},
		{between(1, 5), between(2, 6), between(1, 6)},
		{between(1, 6), between(2, 5), between(1, 6)},
		{point(0), point(0), point(0)},
		{point(-1), point(0), between(-1, 0)},
		{between(-infinite, 1), between(2, infinite), allReals()},
		{between(-infinite, 1), point(3), between(-infinite, 3)},
	} {
		hull, code := impl.HullOfIntervals(e.i, e.j)
		wantInterval(t, callOfTwo("HullOfIntervals", e.i, e.j), hull, code, e.want, impl.ErrNone)
		hull, code = impl.HullOfIntervals(e.j, e.i)
		wantInterval(t, callOfTwo("HullOfIntervals", e.j, e.i), hull, code, e.want, impl.ErrNone)
	}
}

// There is a meet exactly if none of both intervals is less than the other one.
func TestMeetsAndOrders(t *testing.T) {
	intervalPairs(func(i, j impl.Interval) {
		wantOrder := int64(0)
		if i.High < j.Low {
			wantOrder = -1
		} else if i.Low > j.High {
			wantOrder = 1
		}
		order, code := impl.OrderOfIntervals(i, j)
		wantInteger(t, callOfTwo("OrderOfIntervals", i, j), order, code, wantOrder, impl.ErrNone)
		meet, code := impl.MeetOfIntervals(i, j)
		call := callOfTwo("MeetOfIntervals", i, j)
		if wantOrder != 0 {
			wantInterval(t, call, meet, code, impl.Interval{}, impl.ErrNotFound)
			return
		}
		if code != impl.ErrNone || !impl.IsInterval(meet) || !isPart(meet, i) || !isPart(meet, j) {
			t.Errorf("%s = %s, %d", call, named(meet), code)
		}
		if meet.Low != i.Low && meet.Low != j.Low || meet.High != i.High && meet.High != j.High {
			t.Errorf("%s = %s has not all numbers", call, named(meet))
		}
	})
}

func TestMeetsThatAreWrittenOut(t *testing.T) {
	for _, e := range []struct {
		i, j, meet impl.Interval
		code       int64
		order      int64
	}{
		{i: between(1, 2), j: between(-1, 4), meet: between(1, 2)},
		{i: between(1, 3), j: between(2, 4), meet: between(2, 3)},
		// Intervals that touch have one number in common, and no order.
		{i: between(1, 2), j: between(2, 3), meet: point(2)},
		{i: between(-1, 0), j: between(0, 1), meet: point(0)},
		{i: between(-infinite, 0), j: between(0, infinite), meet: point(0)},
		{i: between(-infinite, greatest), j: between(greatest, infinite), meet: point(greatest)},
		{i: point(5), j: point(5), meet: point(5)},
		{i: allReals(), j: between(1, infinite), meet: between(1, infinite)},
		{i: between(-infinite, 2), j: between(1, infinite), meet: between(1, 2)},
		{i: between(1, 2), j: between(0x1.000002p1, 3), code: impl.ErrNotFound, order: -1},
		{i: between(1, 2), j: between(5, 6), code: impl.ErrNotFound, order: -1},
		{i: between(-1, 0), j: between(least, 1), code: impl.ErrNotFound, order: -1},
		{i: between(-infinite, 1), j: between(2, infinite), code: impl.ErrNotFound, order: -1},
		{i: between(-infinite, -greatest), j: between(greatest, infinite), code: impl.ErrNotFound, order: -1},
	} {
		for k, pair := range [][2]impl.Interval{{e.i, e.j}, {e.j, e.i}} {
			meet, code := impl.MeetOfIntervals(pair[0], pair[1])
			wantInterval(t, callOfTwo("MeetOfIntervals", pair[0], pair[1]), meet, code, e.meet, e.code)
			order, code := impl.OrderOfIntervals(pair[0], pair[1])
			wantInteger(t, callOfTwo("OrderOfIntervals", pair[0], pair[1]), order, code, e.order*int64(1-2*k), impl.ErrNone)
		}
	}
}

func TestIsPartOf(t *testing.T) {
	intervalPairs(func(i, j impl.Interval) {
		part, code := impl.IsPartOf(i, j)
		wantBool(t, callOfTwo("IsPartOf", i, j), part, code, isPart(i, j), impl.ErrNone)
	})
	for _, i := range someIntervals() {
		for _, p := range partsOf(i) {
			part, code := impl.IsPartOf(p, i)
			wantBool(t, callOfTwo("IsPartOf", p, i), part, code, true, impl.ErrNone)
		}
	}
	for _, e := range []struct {
		i, j impl.Interval
		want bool
	}{
		{between(1, 2), between(1, 2), true},
		{between(1, 2), between(1, 3), true},
		{between(1, 2), between(0, 2), true},
		{between(1, 2), allReals(), true},
		{between(1, 2), between(0x1.000002p0, 2), false},
		{between(1, 2), between(1, 0x1.fffffep0), false},
		{allReals(), between(-greatest, greatest), false},
		{between(1, infinite), between(1, greatest), false},
		{between(-infinite, 1), between(-greatest, 1), false},
		{between(1, 2), between(3, 4), false},
		{point(0), between(-1, 1), true},
		{point(0), between(least, 1), false},
	} {
		part, code := impl.IsPartOf(e.i, e.j)
		wantBool(t, callOfTwo("IsPartOf", e.i, e.j), part, code, e.want, impl.ErrNone)
	}
}

func TestHasFloat(t *testing.T) {
	for _, i := range append(someIntervals(), disorderedIntervals(39, 50)...) {
		candidates := append(someFloats(), members(i)...)
		for _, x := range append(candidates, math.Nextafter32(i.Low, -infinite), math.Nextafter32(i.High, infinite)) {
			if x-x != 0 {
				continue
			}
			has, code := impl.HasFloat(i, x)
			wantBool(t, fmt.Sprintf("HasFloat(%s, %x)", named(i), x), has, code, hasRat(i, floatRat(x)), impl.ErrNone)
		}
	}
	for _, e := range []struct {
		i    impl.Interval
		x    float32
		want bool
	}{
		{between(1, 2), 1.5, true},
		{between(1, 2), 1, true},
		{between(1, 2), 2, true},
		{between(1, 2), 0x1.fffffep-1, false},
		{between(1, 2), 0x1.000002p1, false},
		{point(0), minusZero, true},
		{between(0, 1), minusZero, true},
		{between(-1, 0), minusZero, true},
		{between(least, 1), minusZero, false},
		{between(-1, -least), minusZero, false},
		{allReals(), greatest, true},
		{allReals(), -greatest, true},
		{between(1, infinite), -greatest, false},
	} {
		has, code := impl.HasFloat(e.i, e.x)
		wantBool(t, fmt.Sprintf("HasFloat(%s, %x)", named(e.i), e.x), has, code, e.want, impl.ErrNone)
	}
}

// numbersAround returns exact numbers at the finite ends of an interval and next to them, some of
// them by the least steps that exact numbers of this size have.
func numbersAround(i impl.Interval) []impl.Dyadic {
	all := []impl.Dyadic{{}}
	for _, x := range []float32{i.Low, i.High} {
		if x-x != 0 {
			continue
		}
		all = append(all, dyadicOf(floatRat(x)))
		for _, e := range []int64{100, 1, -10, -150, -2000} {
			all = append(all, dyadicOf(new(big.Rat).Add(floatRat(x), step(e))), dyadicOf(new(big.Rat).Sub(floatRat(x), step(e))))
		}
	}
	return all
}

func TestHasDyadic(t *testing.T) {
	for k, i := range append(someIntervals(), disorderedIntervals(41, 50)...) {
		candidates := numbersAround(i)
		if k%10 == 0 {
			candidates = append(candidates, someDyadics()...)
		}
		for _, d := range candidates {
			has, code := impl.HasDyadic(i, d)
			wantBool(t, fmt.Sprintf("HasDyadic(%s, %v)", named(i), d), has, code, hasRat(i, ratOf(d)), impl.ErrNone)
		}
	}
	for _, e := range []struct {
		i    impl.Interval
		n    int64
		e    int64
		want bool
	}{
		{between(1, 2), 3, 0, false},
		{between(1, 2), 3, -1, true},
		{between(1, 2), 1, 1, true},
		{between(1, 2), 1<<40 + 1, -40, true},
		{between(1, 2), 1<<40 - 1, -40, false},
		{between(0, 1), 1, -3000, true},
		{between(0, 1), -1, -3000, false},
		{between(-1, 0), 1, -3000, false},
		{between(-greatest, greatest), 1, 3000, false},
		{between(-greatest, greatest), -1, 128, false},
		{allReals(), 1, 3000, true},
		{allReals(), -1, 3000, true},
		{between(1, infinite), 1, 3000, true},
		{between(1, infinite), -1, 3000, false},
		{between(-infinite, 1), -1, 3000, true},
		{between(-infinite, 1), 1, 3000, false},
	} {
		d := dyadic(t, big.NewInt(e.n), e.e)
		has, code := impl.HasDyadic(e.i, d)
		wantBool(t, fmt.Sprintf("HasDyadic(%s, %d 2^%d)", named(e.i), e.n, e.e), has, code, e.want, impl.ErrNone)
	}
}
