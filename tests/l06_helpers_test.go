package tests

import (
	"fmt"
	"math"
	"math/big"
	"testing"

	"loop.example/g01172/impl"
)

// bound is a number, or, without one, the infinite one on a side.
type bound struct {
	rat  *big.Rat
	side int
}

func boundOf(x float32) bound {
	if math.IsInf(float64(x), 0) {
		return bound{side: int(math.Copysign(1, float64(x)))}
	}
	return bound{rat: floatRat(x)}
}

func (a bound) sign() int {
	if a.rat == nil {
		return a.side
	}
	return a.rat.Sign()
}

func (a bound) compare(b bound) int {
	if a.rat == nil || b.rat == nil {
		return a.side - b.side
	}
	return a.rat.Cmp(b.rat)
}

// enclosed returns a bound rounded Down and Up, with 0 in the place of -0.
func (a bound) enclosed() (float32, float32) {
	if a.rat == nil {
		x := float32(math.Inf(a.side))
		return x, x
	}
	low, high := enclosed(a.rat)
	return low + 0, high + 0
}

// outwardOf returns the interval from the least to the greatest one of some bounds.
func outwardOf(bounds []bound) impl.Interval {
	least, greatest := bounds[0], bounds[0]
	for _, b := range bounds {
		if b.compare(least) < 0 {
			least = b
		}
		if b.compare(greatest) > 0 {
			greatest = b
		}
	}
	low, _ := least.enclosed()
	_, high := greatest.enclosed()
	return between(low, high)
}

func between(low, high float32) impl.Interval {
	return impl.Interval{Low: low, High: high}
}

func point(x float32) impl.Interval {
	return between(x, x)
}

// allReals returns the interval without finite ends.
func allReals() impl.Interval {
	return between(-infinite, infinite)
}

// intervalOperation is one of two intervals, with what comes of two ends, which may be nothing or
// more than one bound, and of two numbers.
type intervalOperation struct {
	name   string
	call   func(i, j impl.Interval) (impl.Interval, int64)
	bounds func(a, b bound) []bound
	exact  func(x, y *big.Rat) *big.Rat
}

var intervalOperations = []intervalOperation{
	{"AddIntervals", impl.AddIntervals, sumBounds, operations[sumKind].exact},
	{"SubtractIntervals", impl.SubtractIntervals, differenceBounds, operations[differenceKind].exact},
	{"MultiplyIntervals", impl.MultiplyIntervals, productBounds, operations[productKind].exact},
}

// sumBounds leaves out sums of infinite ends of different signs: each set has others with both.
func sumBounds(a, b bound) []bound {
	switch {
	case a.rat != nil && b.rat != nil:
		return []bound{{rat: new(big.Rat).Add(a.rat, b.rat)}}
	case a.side*b.side < 0:
		return nil
	case a.rat == nil:
		return []bound{a}
	}
	return []bound{b}
}

func differenceBounds(a, b bound) []bound {
	if b.rat == nil {
		return sumBounds(a, bound{side: -b.side})
	}
	return sumBounds(a, bound{rat: new(big.Rat).Neg(b.rat)})
}

func productBounds(a, b bound) []bound {
	sign := a.sign() * b.sign()
	switch {
	case sign == 0:
		return []bound{{rat: new(big.Rat)}}
	case a.rat == nil || b.rat == nil:
		return []bound{{side: sign}}
	}
	return []bound{{rat: new(big.Rat).Mul(a.rat, b.rat)}}
}

// quotientBounds takes no b that is 0.
func quotientBounds(a, b bound) []bound {
	zero, far := bound{rat: new(big.Rat)}, bound{side: a.sign() * b.sign()}
	switch {
	case a.rat == nil && b.rat == nil:
		return []bound{zero, far}
	case a.rat == nil:
		return []bound{far}
	case b.rat == nil:
		return []bound{zero}
	}
	return []bound{{rat: new(big.Rat).Quo(a.rat, b.rat)}}
}

// crossed returns the interval of what comes of the ends of two intervals.
func crossed(i, j impl.Interval, bounds func(a, b bound) []bound) impl.Interval {
	var all []bound
	for _, x := range []float32{i.Low, i.High} {
		for _, y := range []float32{j.Low, j.High} {
			all = append(all, bounds(boundOf(x), boundOf(y))...)
		}
	}
	return outwardOf(all)
}

func hasRat(i impl.Interval, r *big.Rat) bool {
	return compareWithFloat(r, i.Low) >= 0 && compareWithFloat(r, i.High) <= 0
}

func sameIntervals(i, j impl.Interval) bool {
	return same(i.Low, j.Low) && same(i.High, j.High)
}

func isPart(i, j impl.Interval) bool {
	return j.Low <= i.Low && i.High <= j.High
}

// named returns an interval as it is written in reports.
func named(i impl.Interval) string {
	return fmt.Sprintf("{%x, %x}", i.Low, i.High)
}

// wantInterval checks an interval, with the signs of zeros, and a code.
func wantInterval(t *testing.T, call string, i impl.Interval, code int64, want impl.Interval, wantCode int64) {
	t.Helper()
	if !sameIntervals(i, want) || code != wantCode {
		t.Errorf("%s = %s, %d, want %s, %d", call, named(i), code, named(want), wantCode)
	}
}

// wantBool checks a bool and a code.
func wantBool(t *testing.T, call string, got bool, code int64, want bool, wantCode int64) {
	t.Helper()
	if got != want || code != wantCode {
		t.Errorf("%s = %v, %d, want %v, %d", call, got, code, want, wantCode)
	}
}

// someEnds are the ends of someIntervals, ascending.
var someEnds = []float32{
	-infinite, -greatest, -3, -0x1.000002p0, -0.1, -leastNormal, -least, 0,
	least, 3 * least, greatestSubnorm, 0.1, 1, 3, 0x1.921fb6p100, greatest, infinite,
}

// someIntervals returns intervals of all kinds of ends, points and those with infinite ends among
// them.
func someIntervals() []impl.Interval {
	var all []impl.Interval
	for k, low := range someEnds {
		for _, high := range someEnds[k:] {
			if low != infinite && high != -infinite {
				all = append(all, between(low, high))
			}
		}
	}
	return all
}

// disorderedIntervals returns intervals with finite ends of any bits, some of which are close to
// each other.
func disorderedIntervals(seed uint64, n int) []impl.Interval {
	next := noise(seed)
	var all []impl.Interval
	for k, x := range disordered(seed+1, n) {
		y := float32(math.Ldexp(float64(x), int(next()%5)-2))
		if k%3 == 0 {
			y = turned(y)
		}
		y = math.Float32frombits(math.Float32bits(y) ^ uint32(next()>>16)&(1<<20-1))
		if y-y == 0 {
			all = append(all, between(min(x, y)+0, max(x, y)+0))
		}
	}
	return all
}

// intervalPairs calls visit with all pairs of someIntervals, and with some in disorder.
func intervalPairs(visit func(i, j impl.Interval)) {
	all := someIntervals()
	for _, i := range all {
		for _, j := range all {
			visit(i, j)
		}
	}
	first, second := disorderedIntervals(21, 1000), disorderedIntervals(23, 1000)
	for k, i := range first[:min(len(first), len(second))] {
		visit(i, second[k])
		visit(i, all[k%len(all)])
		visit(all[k%len(all)], i)
	}
}

// members returns floats of an interval: its ends and their neighbours, the middle, 0, and some of
// someEnds.
func members(i impl.Interval) []float32 {
	candidates := append([]float32{
		i.Low, math.Nextafter32(i.Low, infinite), i.High, math.Nextafter32(i.High, -infinite), i.Low/2 + i.High/2,
	}, someEnds...)
	var all []float32
	found := map[float32]bool{}
	for _, x := range candidates {
		if x-x == 0 && i.Low <= x && x <= i.High && !found[x] {
			found[x] = true
			all = append(all, x)
		}
	}
	return all
}

// partsOf returns some parts of an interval.
func partsOf(i impl.Interval) []impl.Interval {
	inner := members(i)
	parts := []impl.Interval{i}
	for k, x := range inner {
		y := inner[(5*k+3)%len(inner)]
		parts = append(parts, between(min(x, y)+0, max(x, y)+0))
	}
	return append(parts, between(i.Low, inner[0]+0), between(inner[0]+0, i.High))
}

// noIntervals returns what is no interval, a kind each.
func noIntervals() []impl.Interval {
	otherNaN := math.Float32frombits(0xffc12345)
	return []impl.Interval{
		between(2, 1), between(least, 0), between(0, -least), between(greatest, -greatest), between(math.Nextafter32(1, 2), 1),
		point(infinite), point(-infinite), between(infinite, -infinite), between(1, -infinite), between(infinite, 1), between(infinite, greatest), between(-greatest, -infinite),
		point(minusZero), between(minusZero, 0), between(0, minusZero), between(minusZero, 1), between(-1, minusZero), between(-infinite, minusZero), between(minusZero, infinite),
		point(notANumber), between(notANumber, 1), between(1, notANumber), between(notANumber, infinite), between(-infinite, notANumber), between(otherNaN, 0), between(0, otherNaN),
	}
}
