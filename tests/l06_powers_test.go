package tests

import (
	"fmt"
	"math/big"
	"testing"

	"loop.example/g01172/impl"
)

func ratPower(r *big.Rat, n int64) *big.Rat {
	power := big.NewRat(1, 1)
	for range n {
		power.Mul(power, r)
	}
	return power
}

// powerOf returns the power of an interval by those of its ends, and by that of 0 if it is inside.
func powerOf(i impl.Interval, n int64) impl.Interval {
	if n == 0 {
		return point(1)
	}
	ends := []float32{i.Low, i.High}
	if i.Low < 0 && i.High > 0 {
		ends = append(ends, 0)
	}
	var all []bound
	for _, x := range ends {
		b := boundOf(x)
		switch {
		case b.rat != nil:
			b.rat = ratPower(b.rat, n)
		case n%2 == 0:
			b.side = 1
		}
		all = append(all, b)
	}
	return outwardOf(all)
}

func wantPower(t *testing.T, i impl.Interval, n int64, want impl.Interval) {
	t.Helper()
	got, code := impl.PowerOfInterval(i, n)
	wantInterval(t, fmt.Sprintf("PowerOfInterval(%s, %d)", named(i), n), got, code, want, impl.ErrNone)
}

func TestPowersOfIntervals(t *testing.T) {
	for _, i := range append(someIntervals(), disorderedIntervals(31, 300)...) {
		for n := range int64(21) {
			wantPower(t, i, n, powerOf(i, n))
		}
	}
}

func TestPowersOfNumbersBelongToThoseOfIntervals(t *testing.T) {
	for _, i := range someIntervals() {
		for n := range int64(21) {
			power, _ := impl.PowerOfInterval(i, n)
			for _, x := range members(i) {
				if !hasRat(power, ratPower(floatRat(x), n)) {
					t.Errorf("PowerOfInterval(%s, %d) = %s has not the power of %x", named(i), n, named(power), x)
				}
				d, _ := impl.DyadicOf(x)
				e, _ := impl.DyadicOf(1)
				for range n {
					e, _ = impl.MultiplyDyadics(d, e)
				}
				has, code := impl.HasDyadic(power, e)
				wantBool(t, fmt.Sprintf("HasDyadic(%s, power %d of %x)", named(power), n, x), has, code, true, impl.ErrNone)
			}
		}
	}
}

func TestPowersThatAreWrittenOut(t *testing.T) {
	for _, e := range []struct {
		i    impl.Interval
		n    int64
		want impl.Interval
	}{
		{between(-2, 1), 2, between(0, 4)},
		{between(-2, 1), 3, between(-8, 1)},
		{between(-2, 1), 0, point(1)},
		{between(-2, 1), 1, between(-2, 1)},
		{between(-1, 2), 2, between(0, 4)},
		{between(-3, -2), 2, between(4, 9)},
		{between(-3, -2), 3, between(-27, -8)},
		{between(2, 3), 2, between(4, 9)},
		{between(2, 3), 5, between(32, 243)},
		{between(-3, 2), 20, between(0, 0x1.9fa838p31)},
		{between(-3, 2), 19, between(-0x1.151adp30, 524288)},
		{point(0x1.000002p0), 2, between(0x1.000004p0, 0x1.000006p0)},
		{point(-0x1.000002p0), 3, between(-0x1.000008p0, -0x1.000006p0)},
		// 0 alone and as an end.
		{point(0), 0, point(1)},
		{point(0), 1, point(0)},
		{point(0), 2, point(0)},
		{point(0), 19, point(0)},
		{between(0, 2), 2, between(0, 4)},
		{between(-2, 0), 2, between(0, 4)},
		{between(-2, 0), 3, between(-8, 0)},
		// Infinite ends.
		{allReals(), 0, point(1)},
		{allReals(), 1, allReals()},
		{allReals(), 2, between(0, infinite)},
		{allReals(), 3, allReals()},
		{between(2, infinite), 0, point(1)},
		{between(2, infinite), 2, between(4, infinite)},
		{between(2, infinite), 3, between(8, infinite)},
		{between(-infinite, -2), 0, point(1)},
		{between(-infinite, -2), 2, between(4, infinite)},
		{between(-infinite, -2), 3, between(-infinite, -8)},
		{between(-infinite, 2), 2, between(0, infinite)},
		{between(-infinite, 2), 3, between(-infinite, 8)},
		{between(-2, infinite), 20, between(0, infinite)},
		// Powers beyond the greatest float and below the least one.
		{point(greatest), 2, between(greatest, infinite)},
		{point(-greatest), 3, between(-infinite, -greatest)},
		{point(greatest), 20, between(greatest, infinite)},
		{between(-greatest, greatest), 3, allReals()},
		{point(least), 1, point(least)},
		{point(least), 2, between(0, least)},
		{point(-least), 2, between(0, least)},
		{point(-least), 3, between(-least, 0)},
		{between(-least, least), 19, between(-least, least)},
		{point(least), 20, between(0, least)},
	} {
		wantPower(t, e.i, e.n, e.want)
	}
}

func TestExponentsThatAreNone(t *testing.T) {
	for _, n := range append([]int64{-1, -2, 21, 22, 1 << 32}, extremes...) {
		for _, i := range []impl.Interval{point(0), between(1, 2), allReals()} {
			got, code := impl.PowerOfInterval(i, n)
			wantInterval(t, fmt.Sprintf("PowerOfInterval(%s, %d)", named(i), n), got, code, impl.Interval{}, impl.ErrRange)
		}
	}
}

// rootOfInterval takes the roots of both ends from their squares.
func rootOfInterval(i impl.Interval) impl.Interval {
	low, _ := rootOf(i.Low, impl.Down)
	if i.High == infinite {
		return between(low, infinite)
	}
	high, _ := rootOf(i.High, impl.Up)
	return between(low, high)
}

func TestRootsOfIntervals(t *testing.T) {
	for _, i := range append(someIntervals(), disorderedIntervals(33, 1000)...) {
		root, code := impl.RootOfInterval(i)
		call := fmt.Sprintf("RootOfInterval(%s)", named(i))
		if i.Low < 0 {
			wantInterval(t, call, root, code, impl.Interval{}, impl.ErrState)
			continue
		}
		wantInterval(t, call, root, code, rootOfInterval(i), impl.ErrNone)
		square, code := impl.PowerOfInterval(root, 2)
		if code != impl.ErrNone || !isPart(i, square) {
			t.Errorf("%s = %s, and the square of this is %s", call, named(root), named(square))
		}
	}
}

// A root of a number belongs to an interval if the number is between the squares of its ends.
func TestRootsOfNumbersBelongToThoseOfIntervals(t *testing.T) {
	for _, i := range someIntervals() {
		if i.Low < 0 {
			continue
		}
		root, _ := impl.RootOfInterval(i)
		for _, x := range members(i) {
			value := floatRat(x)
			isAbove := root.High == infinite || ratPower(floatRat(root.High), 2).Cmp(value) >= 0
			if root.Low < 0 || ratPower(floatRat(root.Low), 2).Cmp(value) > 0 || !isAbove {
				t.Errorf("RootOfInterval(%s) = %s has not the root of %x", named(i), named(root), x)
			}
		}
	}
}

func TestRootsOfIntervalsThatAreWrittenOut(t *testing.T) {
	for _, e := range []struct {
		i, want impl.Interval
		code    int64
	}{
		{i: between(4, 9), want: between(2, 3)},
		{i: point(0), want: point(0)},
		{i: between(0, 4), want: between(0, 2)},
		{i: between(0, infinite), want: between(0, infinite)},
		{i: between(2, infinite), want: between(0x1.6a09e6p0, infinite)},
		{i: point(2), want: between(0x1.6a09e6p0, 0x1.6a09e8p0)},
		{i: point(least), want: between(0x1.6a09e6p-75, 0x1.6a09e8p-75)},
		{i: point(4 * least), want: between(0x1.6a09e6p-74, 0x1.6a09e8p-74)},
		{i: point(2 * least), want: point(0x1p-74)},
		{i: point(greatest), want: between(0x1.fffffep63, 0x1p64)},
		{i: between(-least, 1), code: impl.ErrState},
		{i: point(-1), code: impl.ErrState},
		{i: between(-1, 0), code: impl.ErrState},
		{i: allReals(), code: impl.ErrState},
		{i: between(-infinite, 4), code: impl.ErrState},
	} {
		root, code := impl.RootOfInterval(e.i)
		wantInterval(t, fmt.Sprintf("RootOfInterval(%s)", named(e.i)), root, code, e.want, e.code)
	}
}

func TestAbsoluteIntervals(t *testing.T) {
	for _, e := range []struct{ i, want impl.Interval }{
		{between(-1, 4), between(0, 4)},
		{between(-4, 1), between(0, 4)},
		{between(1, 4), between(1, 4)},
		{between(-4, -1), between(1, 4)},
		{point(0), point(0)},
		{between(0, 4), between(0, 4)},
		{between(-4, 0), between(0, 4)},
		{allReals(), between(0, infinite)},
		{between(-infinite, -1), between(1, infinite)},
		{between(-infinite, 1), between(0, infinite)},
		{between(-1, infinite), between(0, infinite)},
		{between(1, infinite), between(1, infinite)},
		{between(-infinite, 0), between(0, infinite)},
		{between(-least, 0), between(0, least)},
	} {
		got, code := impl.AbsoluteInterval(e.i)
		wantInterval(t, fmt.Sprintf("AbsoluteInterval(%s)", named(e.i)), got, code, e.want, impl.ErrNone)
	}
	for _, i := range append(someIntervals(), disorderedIntervals(35, 300)...) {
		absolute, code := impl.AbsoluteInterval(i)
		power := powerOf(i, 2)
		if code != impl.ErrNone || !impl.IsInterval(absolute) || absolute.Low < 0 || !sameIntervals(powerOf(absolute, 2), power) {
			t.Errorf("AbsoluteInterval(%s) = %s, %d", named(i), named(absolute), code)
		}
		for _, x := range members(i) {
			if !hasRat(absolute, new(big.Rat).Abs(floatRat(x))) {
				t.Errorf("AbsoluteInterval(%s) = %s has not that of %x", named(i), named(absolute), x)
			}
		}
	}
}

func TestOppositeIntervals(t *testing.T) {
	for _, i := range append(someIntervals(), disorderedIntervals(37, 300)...) {
		opposite, code := impl.NegateInterval(i)
		call := fmt.Sprintf("NegateInterval(%s)", named(i))
		// A difference from 0 is not -0.
		wantInterval(t, call, opposite, code, between(0-i.High, 0-i.Low), impl.ErrNone)
		back, code := impl.NegateInterval(opposite)
		wantInterval(t, "that of "+call, back, code, i, impl.ErrNone)
	}
}
