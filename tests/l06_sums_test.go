package tests

import (
	"fmt"
	"testing"

	"loop.example/g01172/impl"
)

func callOfTwo(name string, i, j impl.Interval) string {
	return fmt.Sprintf("%s(%s, %s)", name, named(i), named(j))
}

// The ends are exactly those of the exact results of ends, rounded Down and Up.
func TestSumsDifferencesAndProductsOfIntervals(t *testing.T) {
	intervalPairs(func(i, j impl.Interval) {
		for _, op := range intervalOperations {
			got, code := op.call(i, j)
			wantInterval(t, callOfTwo(op.name, i, j), got, code, crossed(i, j, op.bounds), impl.ErrNone)
			if !impl.IsInterval(got) {
				t.Errorf("%s = %s is no interval", callOfTwo(op.name, i, j), named(got))
			}
		}
	})
}

func TestResultsOfNumbersBelongToThoseOfIntervals(t *testing.T) {
	all := someIntervals()
	for k, i := range all {
		j := all[(37*k+11)%len(all)]
		for _, op := range intervalOperations {
			result, _ := op.call(i, j)
			for _, x := range members(i) {
				for _, y := range members(j) {
					if !hasRat(result, op.exact(floatRat(x), floatRat(y))) {
						t.Errorf("%s = %s has not the result of %x and %x", callOfTwo(op.name, i, j), named(result), x, y)
					}
				}
			}
		}
	}
}

// The exact numbers are those of chapter 3, and so is the test whether they belong to a result.
func TestExactSumsAndProductsBelongToThoseOfIntervals(t *testing.T) {
	exact := []func(c, d impl.Dyadic) (impl.Dyadic, int64){impl.AddDyadics, impl.SubtractDyadics, impl.MultiplyDyadics}
	all := someIntervals()
	for k, i := range all {
		j := all[(53*k+7)%len(all)]
		for n, op := range intervalOperations {
			result, _ := op.call(i, j)
			for _, x := range members(i) {
				for _, y := range members(j) {
					c, _ := impl.DyadicOf(x)
					d, _ := impl.DyadicOf(y)
					e, _ := exact[n](c, d)
					has, code := impl.HasDyadic(result, e)
					wantBool(t, fmt.Sprintf("HasDyadic(%s, result of %x and %x)", callOfTwo(op.name, i, j), x, y), has, code, true, impl.ErrNone)
				}
			}
		}
	}
}

func TestPartsMakeParts(t *testing.T) {
	all := append(someIntervals(), disorderedIntervals(25, 50)...)
	for k, i := range all {
		j := all[(41*k+5)%len(all)]
		for _, op := range intervalOperations {
			whole, _ := op.call(i, j)
			for _, p := range partsOf(i) {
				for _, q := range partsOf(j) {
					if part, _ := op.call(p, q); !isPart(part, whole) {
						t.Errorf("%s = %s is no part of %s = %s", callOfTwo(op.name, p, q), named(part), callOfTwo(op.name, i, j), named(whole))
					}
				}
			}
		}
	}
}

// intervalExample is a result that is written out.
type intervalExample struct {
	i, j, want impl.Interval
}

func wantIntervalExamples(t *testing.T, op intervalOperation, commutes bool, examples []intervalExample) {
	t.Helper()
	for _, e := range examples {
		got, code := op.call(e.i, e.j)
		wantInterval(t, callOfTwo(op.name, e.i, e.j), got, code, e.want, impl.ErrNone)
		if commutes {
			got, code = op.call(e.j, e.i)
			wantInterval(t, callOfTwo(op.name, e.j, e.i), got, code, e.want, impl.ErrNone)
		}
	}
}

func TestSumsOfIntervalsThatAreWrittenOut(t *testing.T) {
	wantIntervalExamples(t, intervalOperations[0], true, []intervalExample{
		{between(1, 2), between(-1, 4), between(0, 6)},
		{point(1), point(0x1p-30), between(1, 0x1.000002p0)},
		{point(-1), point(-0x1p-30), between(-0x1.000002p0, -1)},
		{point(1), point(-0x1p-30), between(0x1.fffffep-1, 1)},
		// Zeros: none of them becomes -0.
		{point(1), point(-1), point(0)},
		{point(0), point(0), point(0)},
		{between(-1, 1), between(-1, 1), between(-2, 2)},
		{between(-1, 3), between(1, 2), between(0, 5)},
		{between(-3, 1), between(-2, -1), between(-5, 0)},
		// Infinite ends on one side and on both.
		{between(-infinite, 1), between(2, 3), between(-infinite, 4)},
		{between(1, infinite), between(2, 3), between(3, infinite)},
		{between(-infinite, 1), between(-infinite, 2), between(-infinite, 3)},
		{between(1, infinite), between(2, infinite), between(3, infinite)},
		{between(1, infinite), between(-infinite, 2), allReals()},
		{allReals(), between(1, 2), allReals()},
		{allReals(), between(1, infinite), allReals()},
		{allReals(), between(-infinite, 1), allReals()},
		{allReals(), allReals(), allReals()},
		{between(-infinite, -3), point(3), between(-infinite, 0)},
		// Sums that are too great for a float.
		{point(greatest), point(greatest), between(greatest, infinite)},
		{point(-greatest), point(-greatest), between(-infinite, -greatest)},
		{point(greatest), point(least), between(greatest, infinite)},
		{point(-greatest), point(-least), between(-infinite, -greatest)},
		{between(-greatest, greatest), between(-greatest, greatest), allReals()},
		{between(greatest, infinite), between(greatest, infinite), between(greatest, infinite)},
		{between(-infinite, -greatest), between(-infinite, -greatest), between(-infinite, -greatest)},
		// Subnormal ends.
		{point(least), point(least), point(2 * least)},
		{point(leastNormal), between(-least, least), between(greatestSubnorm, 0x1.000002p-126)},
		{between(-least, least), between(-least, least), between(-2*least, 2*least)},
	})
}

func TestDifferencesOfIntervalsThatAreWrittenOut(t *testing.T) {
	wantIntervalExamples(t, intervalOperations[1], false, []intervalExample{
		{between(1, 2), between(-1, 4), between(-3, 3)},
		{between(-1, 4), between(1, 2), between(-3, 3)},
		{between(1, 2), between(5, 7), between(-6, -3)},
		{point(1), point(0x1p-30), between(0x1.fffffep-1, 1)},
		{point(1), point(-0x1p-30), between(1, 0x1.000002p0)},
		{point(1), point(1), point(0)},
		{point(0), point(0), point(0)},
		{point(0), between(0, 1), between(-1, 0)},
		{between(0, 1), point(0), between(0, 1)},
		{between(0, infinite), between(0, infinite), allReals()},
		{between(-infinite, 0), between(0, infinite), between(-infinite, 0)},
		{between(0, infinite), between(-infinite, 0), between(0, infinite)},
		{between(-infinite, 0), between(-infinite, 0), allReals()},
		{between(1, 2), between(-infinite, 3), between(-2, infinite)},
		{between(1, 2), between(3, infinite), between(-infinite, -1)},
		{between(1, 2), allReals(), allReals()},
		{allReals(), between(1, 2), allReals()},
		{allReals(), allReals(), allReals()},
		{point(greatest), point(-greatest), between(greatest, infinite)},
		{point(-greatest), point(greatest), between(-infinite, -greatest)},
		{point(greatest), point(greatest), point(0)},
		{point(least), point(2 * least), point(-least)},
	})
}

func TestProductsOfIntervalsThatAreWrittenOut(t *testing.T) {
	wantIntervalExamples(t, intervalOperations[2], true, []intervalExample{
		{between(1, 2), between(-1, 4), between(-2, 8)},
		{between(-2, 3), between(-5, 7), between(-15, 21)},
		{between(-2, -1), between(-5, 7), between(-14, 10)},
		{between(-2, -1), between(-7, -5), between(5, 14)},
		{between(-2, 3), between(5, 7), between(-14, 21)},
		{point(0x1.000002p0), point(0x1.000002p0), between(0x1.000004p0, 0x1.000006p0)},
		{point(0x1.000002p0), point(-0x1.000002p0), between(-0x1.000006p0, -0x1.000004p0)},
		// 0 times an infinite end, and products that are 0.
		{point(0), allReals(), point(0)},
		{point(0), between(1, infinite), point(0)},
		{point(0), between(-infinite, -1), point(0)},
		{point(0), between(-1, 1), point(0)},
		{between(0, 1), between(1, infinite), between(0, infinite)},
		{between(-1, 0), between(1, infinite), between(-infinite, 0)},
		{between(0, 1), between(-infinite, 1), between(-infinite, 1)},
		{between(0, infinite), between(0, infinite), between(0, infinite)},
		{between(-infinite, 0), between(0, infinite), between(-infinite, 0)},
		{between(-infinite, 0), between(-infinite, 0), between(0, infinite)},
		{between(0, 1), between(0, 1), between(0, 1)},
		{between(-1, 0), between(0, 1), between(-1, 0)},
		{between(-1, 0), between(-1, 0), between(0, 1)},
		// Infinite ends.
		{allReals(), allReals(), allReals()},
		{allReals(), point(least), allReals()},
		{between(-infinite, -1), between(-infinite, -1), between(1, infinite)},
		{between(1, infinite), between(-infinite, -1), between(-infinite, -1)},
		{between(1, infinite), between(2, infinite), between(2, infinite)},
		{between(-1, 1), between(0, infinite), allReals()},
		{between(-1, infinite), between(2, 3), between(-3, infinite)},
		{between(-infinite, 1), between(-3, -2), between(-3, infinite)},
		// Products between 0 and the least float, and beyond the greatest one.
		{point(least), point(least), between(0, least)},
		{point(-least), point(least), between(-least, 0)},
		{point(least), point(0.5), between(0, least)},
		{point(-least), point(0.5), between(-least, 0)},
		{between(-least, least), point(0.5), between(-least, least)},
		{point(3 * least), point(0.5), between(least, 2*least)},
		{point(greatest), point(greatest), between(greatest, infinite)},
		{point(-greatest), point(greatest), between(-infinite, -greatest)},
		{point(greatest), point(0x1.000002p0), between(greatest, infinite)},
		{between(-greatest, greatest), point(2), allReals()},
		{between(greatest, infinite), between(-infinite, -greatest), between(-infinite, -greatest)},
	})
}
