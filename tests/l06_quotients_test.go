package tests

import (
	"fmt"
	"math/big"
	"slices"
	"testing"

	"loop.example/g01172/impl"
)

// quotientsOf follows the four cases of chapter 6, one after the other.
func quotientsOf(i, j impl.Interval) []impl.Interval {
	iHasZero, jHasZero := i.Low <= 0 && i.High >= 0, j.Low <= 0 && j.High >= 0
	switch {
	case !jHasZero:
		return []impl.Interval{crossed(i, j, quotientBounds)}
	case iHasZero:
		return []impl.Interval{allReals()}
	case j.Low == 0 && j.High == 0:
		return nil
	}
	x := i.Low
	if i.High < 0 {
		x = i.High
	}
	var all []impl.Interval
	if j.Low < 0 {
		all = append(all, awayFromZero(x, j.Low))
	}
	if j.High > 0 {
		all = append(all, awayFromZero(x, j.High))
	}
	if x < 0 {
		slices.Reverse(all) // the quotients by negative numbers are the positive ones here
	}
	return all
}

// awayFromZero returns the interval from the quotient of x and y, both other than 0, away from 0.
func awayFromZero(x, y float32) impl.Interval {
	low, high := quotientBounds(boundOf(x), boundOf(y))[0].enclosed()
	if isMinus(x) != isMinus(y) {
		return between(-infinite, high)
	}
	return between(low, infinite)
}

// wantQuotients checks a list of intervals, with the signs of zeros, and a code.
func wantQuotients(t *testing.T, call string, list []impl.Interval, code int64, want []impl.Interval, wantCode int64) {
	t.Helper()
	if !slices.EqualFunc(list, want, sameIntervals) || code != wantCode {
		t.Errorf("%s = %x, %d, want %x, %d", call, list, code, want, wantCode)
	}
}

func TestQuotientsOfIntervals(t *testing.T) {
	lengths := map[int]bool{}
	intervalPairs(func(i, j impl.Interval) {
		list, code := impl.DivideIntervals(i, j)
		wantQuotients(t, callOfTwo("DivideIntervals", i, j), list, code, quotientsOf(i, j), impl.ErrNone)
		lengths[len(list)] = true
		for _, q := range list {
			if !impl.IsInterval(q) {
				t.Errorf("%s has %s, which is no interval", callOfTwo("DivideIntervals", i, j), named(q))
			}
		}
	})
	if !lengths[0] || !lengths[1] || !lengths[2] {
		t.Errorf("the numbers of quotients are %v", lengths)
	}
}

// wantAmong checks that a quotient belongs to an interval of a list.
func wantAmong(t *testing.T, call string, list []impl.Interval, q *big.Rat) {
	t.Helper()
	if !slices.ContainsFunc(list, func(k impl.Interval) bool { return hasRat(k, q) }) {
		t.Errorf("%s = %x has not %v", call, list, q)
	}
}

// All q with q y = x belong to a quotient: one of them if y is not 0, all of them if x is 0, too.
func TestQuotientsOfNumbersBelongToThoseOfIntervals(t *testing.T) {
	all := someIntervals()
	for k, i := range all {
		for n := range 3 {
			j := all[(37*k+11+29*n)%len(all)]
			list, _ := impl.DivideIntervals(i, j)
			call := callOfTwo("DivideIntervals", i, j)
			for _, x := range members(i) {
				for _, y := range members(j) {
					switch {
					case y != 0:
						wantAmong(t, call, list, new(big.Rat).Quo(floatRat(x), floatRat(y)))
					case x == 0:
						wantQuotients(t, call, list, impl.ErrNone, []impl.Interval{allReals()}, impl.ErrNone)
					}
				}
			}
		}
	}
}

// The exact product x of q and y lies between two floats, and q is a quotient of the interval of
// these by any interval that has y.
func TestFactorsBelongToQuotients(t *testing.T) {
	divisors := someIntervals()
	for _, q := range append(someFloats(), disordered(27, 20)...) {
		for k, j := range divisors {
			y := members(j)[k%len(members(j))]
			c, _ := impl.DyadicOf(q)
			d, _ := impl.DyadicOf(y)
			x, _ := impl.MultiplyDyadics(c, d)
			low, high, _ := impl.EnclosingFloats(x)
			i := between(low+0, high+0)
			list, _ := impl.DivideIntervals(i, j)
			if !slices.ContainsFunc(list, func(k impl.Interval) bool {
				has, code := impl.HasDyadic(k, c)
				return has && code == impl.ErrNone
			}) {
				t.Errorf("%s = %x has not %x", callOfTwo("DivideIntervals", i, j), list, q)
			}
		}
	}
}

func TestPartsMakePartsOfQuotients(t *testing.T) {
	all := append(someIntervals(), disorderedIntervals(29, 50)...)
	for k, i := range all {
		j := all[(43*k+3)%len(all)]
		whole, _ := impl.DivideIntervals(i, j)
		for _, p := range partsOf(i) {
			for _, q := range partsOf(j) {
				list, _ := impl.DivideIntervals(p, q)
				for _, part := range list {
					if !slices.ContainsFunc(whole, func(k impl.Interval) bool { return isPart(part, k) }) {
						t.Errorf("%s has %s, which is no part of one of %s = %x", callOfTwo("DivideIntervals", p, q), named(part), callOfTwo("DivideIntervals", i, j), whole)
					}
				}
			}
		}
	}
}

// quotientsExample is a list of quotients that is written out.
type quotientsExample struct {
	i, j impl.Interval
	want []impl.Interval
}

func wantQuotientsExamples(t *testing.T, examples []quotientsExample) {
	t.Helper()
	for _, e := range examples {
		list, code := impl.DivideIntervals(e.i, e.j)
		wantQuotients(t, callOfTwo("DivideIntervals", e.i, e.j), list, code, e.want, impl.ErrNone)
	}
}

func TestQuotientsByIntervalsWithoutZero(t *testing.T) {
	for _, e := range []intervalExample{
		{between(1, 2), between(4, 8), between(0.125, 0.5)},
		{between(-1, 2), between(4, 8), between(-0.25, 0.5)},
		{between(-2, -1), between(4, 8), between(-0.5, -0.125)},
		{between(-2, -1), between(-8, -4), between(0.125, 0.5)},
		{point(1), point(3), between(0x1.555554p-2, 0x1.555556p-2)},
		{point(-1), point(3), between(-0x1.555556p-2, -0x1.555554p-2)},
		// 0 in i: alone, as Low and as High.
		{point(0), between(1, 2), point(0)},
		{point(0), between(-2, -1), point(0)},
		{between(0, 1), between(1, 2), between(0, 1)},
		{between(0, 1), between(-2, -1), between(-1, 0)},
		{between(-1, 0), between(-2, -1), between(0, 1)},
		// An infinite end of j.
		{between(1, 2), between(4, infinite), between(0, 0.5)},
		{between(-2, -1), between(4, infinite), between(-0.5, 0)},
		{between(1, 2), between(-infinite, -4), between(-0.5, 0)},
		{between(-2, -1), between(-infinite, -4), between(0, 0.5)},
		{point(0), between(4, infinite), point(0)},
		{point(0), between(-infinite, -4), point(0)},
		// An infinite end of i.
		{between(1, infinite), between(4, 8), between(0.125, infinite)},
		{between(-infinite, 1), between(4, 8), between(-infinite, 0.25)},
		{between(1, infinite), between(-8, -4), between(-infinite, -0.125)},
		{between(-infinite, -1), between(-8, -4), between(0.125, infinite)},
		{allReals(), between(4, 8), allReals()},
		{allReals(), between(-8, -4), allReals()},
		// Infinite ends of both.
		{between(1, infinite), between(4, infinite), between(0, infinite)},
		{between(-infinite, -1), between(4, infinite), between(-infinite, 0)},
		{between(1, infinite), between(-infinite, -4), between(-infinite, 0)},
		{between(-infinite, -1), between(-infinite, -4), between(0, infinite)},
		{between(0, infinite), between(4, infinite), between(0, infinite)},
		{between(-1, infinite), between(4, infinite), between(-0.25, infinite)},
		{between(-infinite, 1), between(-infinite, -4), between(-0.25, infinite)},
		{allReals(), between(4, infinite), allReals()},
		{allReals(), between(-infinite, -4), allReals()},
		// Quotients between 0 and the least float, and beyond the greatest one.
		{point(least), point(greatest), between(0, least)},
		{point(least), point(-greatest), between(-least, 0)},
		{point(least), point(2), between(0, least)},
		{point(-least), point(2), between(-least, 0)},
		{point(greatest), point(least), between(greatest, infinite)},
		{point(-greatest), point(least), between(-infinite, -greatest)},
		{between(-greatest, greatest), point(0.5), allReals()},
	} {
		list, code := impl.DivideIntervals(e.i, e.j)
		wantQuotients(t, callOfTwo("DivideIntervals", e.i, e.j), list, code, []impl.Interval{e.want}, impl.ErrNone)
	}
}

func TestQuotientsIfBothHaveZero(t *testing.T) {
	withZero := []impl.Interval{
		point(0), between(0, 1), between(-1, 0), between(-1, 1), between(0, infinite), between(-infinite, 0), allReals(), between(0, least), between(-least, 0),
	}
	for _, i := range withZero {
		for _, j := range withZero {
			wantQuotientsExamples(t, []quotientsExample{{i, j, []impl.Interval{allReals()}}})
		}
	}
}

func TestQuotientsByZeroAlone(t *testing.T) {
	for _, i := range []impl.Interval{
		between(1, 2), between(-2, -1), point(least), point(-least), between(1, infinite), between(-infinite, -1), between(least, infinite),
	} {
		wantQuotientsExamples(t, []quotientsExample{{i, point(0), nil}})
	}
}

func TestQuotientsByIntervalsWithZero(t *testing.T) {
	wantQuotientsExamples(t, []quotientsExample{
		// 0 is the Low or the High of j.
		{between(1, 2), between(0, 4), []impl.Interval{between(0.25, infinite)}},
		{between(1, 2), between(-4, 0), []impl.Interval{between(-infinite, -0.25)}},
		{between(-2, -1), between(0, 4), []impl.Interval{between(-infinite, -0.25)}},
		{between(-2, -1), between(-4, 0), []impl.Interval{between(0.25, infinite)}},
		{point(1), between(0, 3), []impl.Interval{between(0x1.555554p-2, infinite)}},
		{point(1), between(-3, 0), []impl.Interval{between(-infinite, -0x1.555554p-2)}},
		{between(1, 2), between(0, infinite), []impl.Interval{between(0, infinite)}},
		{between(1, 2), between(-infinite, 0), []impl.Interval{between(-infinite, 0)}},
		{between(-2, -1), between(0, infinite), []impl.Interval{between(-infinite, 0)}},
		{between(-2, -1), between(-infinite, 0), []impl.Interval{between(0, infinite)}},
		{between(1, infinite), between(0, 4), []impl.Interval{between(0.25, infinite)}},
		{between(-infinite, -1), between(0, 4), []impl.Interval{between(-infinite, -0.25)}},
		{between(1, infinite), between(0, infinite), []impl.Interval{between(0, infinite)}},
		{point(greatest), between(0, least), []impl.Interval{between(greatest, infinite)}},
		{point(greatest), between(-least, 0), []impl.Interval{between(-infinite, -greatest)}},
		{point(least), between(0, greatest), []impl.Interval{between(0, infinite)}},
		{point(least), between(-greatest, 0), []impl.Interval{between(-infinite, 0)}},
		// 0 is inside of j.
		{between(1, 2), between(-1, 4), []impl.Interval{between(-infinite, -1), between(0.25, infinite)}},
		{between(-2, -1), between(-1, 4), []impl.Interval{between(-infinite, -0.25), between(1, infinite)}},
		{between(2, 5), between(-4, 1), []impl.Interval{between(-infinite, -0.5), between(2, infinite)}},
		{between(-5, -2), between(-4, 1), []impl.Interval{between(-infinite, -2), between(0.5, infinite)}},
		{between(1, 2), allReals(), []impl.Interval{between(-infinite, 0), between(0, infinite)}},
		{between(-2, -1), allReals(), []impl.Interval{between(-infinite, 0), between(0, infinite)}},
		{between(1, 2), between(-infinite, 4), []impl.Interval{between(-infinite, 0), between(0.25, infinite)}},
		{between(-2, -1), between(-infinite, 4), []impl.Interval{between(-infinite, -0.25), between(0, infinite)}},
		{between(1, 2), between(-4, infinite), []impl.Interval{between(-infinite, -0.25), between(0, infinite)}},
		{between(1, infinite), between(-2, 4), []impl.Interval{between(-infinite, -0.5), between(0.25, infinite)}},
		{between(-infinite, -1), between(-2, 4), []impl.Interval{between(-infinite, -0.25), between(0.5, infinite)}},
		{point(least), between(-greatest, greatest), []impl.Interval{between(-infinite, 0), between(0, infinite)}},
		{point(greatest), between(-least, least), []impl.Interval{between(-infinite, -greatest), between(greatest, infinite)}},
	})
}

// Each call has a list of its own.
func TestQuotientsShareNoMemory(t *testing.T) {
	for _, j := range []impl.Interval{between(1, 2), between(0, 4), between(-1, 4), between(0, 0)} {
		for _, i := range []impl.Interval{between(1, 2), between(-1, 1)} {
			list, _ := impl.DivideIntervals(i, j)
			for k := range list {
				list[k] = point(7)
			}
			_ = append(list, point(8))
			list, code := impl.DivideIntervals(i, j)
			wantQuotients(t, fmt.Sprintf("a second %s", callOfTwo("DivideIntervals", i, j)), list, code, quotientsOf(i, j), impl.ErrNone)
		}
	}
}
