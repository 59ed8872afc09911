package tests

import (
	"fmt"
	"math"
	"math/big"
	"testing"

	"loop.example/g01172/impl"
)

// hasOver tells whether a function has an enclosure over an interval.
func (f realFunction) hasOver(i impl.Interval) bool {
	switch f.name {
	case "Log":
		return i.Low > 0
	case "Sin":
		return f.has(i.Low) && f.has(i.High)
	}
	return true
}

// exactOver returns what the enclosure of an increasing function has to be.
func (f realFunction) exactOver(t *testing.T, i impl.Interval) impl.Interval {
	t.Helper()
	return between(f.exactEnd(t, i.Low, impl.Down), f.exactEnd(t, i.High, impl.Up))
}

func (f realFunction) exactEnd(t *testing.T, x float32, mode int64) float32 {
	t.Helper()
	switch {
	case x-x == 0:
		return f.exactValues(t, x)[mode] + 0
	case f.name == "Atan":
		half := around(circleNumber(ordinaryBits), -ordinaryBits-1)
		if x < 0 {
			half = half.opposite()
		}
		return half.roundedIn(t, mode)
	case x < 0:
		return 0
	}
	return infinite
}

// exactSinOver follows the definition: the values at both ends, and those of all right angles.
func exactSinOver(t *testing.T, i impl.Interval) impl.Interval {
	t.Helper()
	first, last := sine.exactValues(t, i.Low), sine.exactValues(t, i.High)
	low, high := min(first[impl.Down], last[impl.Down]), max(first[impl.Up], last[impl.Up])
	if hasAngle(i, 1) {
		high = 1
	}
	if hasAngle(i, -1) {
		low = -1
	}
	return between(low+0, high+0)
}

// hasAngle tells whether n right angles and any number of circles are in an interval.
func hasAngle(i impl.Interval, n int64) bool {
	right := scaled(circleNumber(ordinaryBits), -ordinaryBits-1)
	rights := new(big.Rat).Quo(floatRat(i.Low), right)
	rights.Sub(rights, new(big.Rat).SetInt64(n))
	circles := new(big.Int).Div(rights.Num(), new(big.Int).Lsh(rights.Denom(), 2))
	first := new(big.Rat).SetInt64(4*(circles.Int64()+1) + n)
	return first.Mul(first, right).Cmp(floatRat(i.High)) <= 0
}

// wantOver checks an enclosure, that it is an interval, and that the values at some floats of i are
// in it.
func wantOver(t *testing.T, f realFunction, i, want impl.Interval) {
	t.Helper()
	got, code := f.over(i)
	wantInterval(t, fmt.Sprintf("%sOver(%s)", f.name, named(i)), got, code, want, impl.ErrNone)
	if !impl.IsInterval(got) {
		t.Errorf("%sOver(%s) is no interval", f.name, named(i))
	}
}

func wantMembers(t *testing.T, f realFunction, i impl.Interval, floats []float32) {
	t.Helper()
	over, code := f.over(i)
	for _, x := range floats {
		for mode, y := range f.values(t, x) {
			if code != impl.ErrNone || y < over.Low || y > over.High {
				t.Errorf("%sIn(%x, %d) = %x is not in %sOver(%s) = %s, %d", f.name, x, mode, y, f.name, named(i), named(over), code)
			}
		}
	}
}

func TestEnclosures(t *testing.T) {
	for _, f := range increasingFunctions {
		for k, i := range append(someIntervals(), disorderedIntervals(75, 100)...) {
			if !f.hasOver(i) {
				continue
			}
			wantOver(t, f, i, f.exactOver(t, i))
			if k%3 == 0 {
				wantMembers(t, f, i, members(i))
			}
		}
	}
}

func TestEnclosuresOfSines(t *testing.T) {
	for k, i := range append(someIntervals(), disorderedIntervals(77, 200)...) {
		if !sine.hasOver(i) {
			continue
		}
		wantOver(t, sine, i, exactSinOver(t, i))
		if k%3 == 0 {
			wantMembers(t, sine, i, members(i))
		}
	}
}

// Ends next to right angles, few of them and many apart.
func TestEnclosuresOfSinesBetweenRightAngles(t *testing.T) {
	ends := append(sine.around(rightAngles([]int64{1, 2, 3, 4, 5, 6, 7, 161})), 0, 0.5, -0.5, 8, -8)
	for k, x := range ends {
		for _, y := range ends[:k+1] {
			i := between(min(x, y), max(x, y))
			wantOver(t, sine, i, exactSinOver(t, i))
		}
	}
}

// Between neighbours of such a size there can be a right angle with a value far from both ends.
func TestEnclosuresOfSinesBetweenNeighbours(t *testing.T) {
	counts := []int64{}
	for n := range int64(24) {
		counts = append(counts, 667500+n, 333700+n)
	}
	for _, x := range sine.around(rightAngles(counts)) {
		y := math.Nextafter32(x, infinite)
		for _, i := range []impl.Interval{point(x), between(x, y), between(x, y+0.5), between(x, y+1.5)} {
			if sine.hasOver(i) {
				wantOver(t, sine, i, exactSinOver(t, i))
			}
		}
	}
	for _, x := range scattered(300, maxAngle-4) {
		for _, width := range []float32{0, 0.5, 1.5, 3, 3.5} {
			i := between(x, x+width)
			wantOver(t, sine, i, exactSinOver(t, i))
			wantMembers(t, sine, i, members(i))
		}
	}
}

// All floats of short intervals.
func TestValuesAtAllFloats(t *testing.T) {
	for _, f := range realFunctions {
		for _, x := range []float32{-100, -0x1.921fb6p0, -1, -30 * least, 0, leastNormal, 0.1, 1, 0x1.921facp0, 0x1.2d97cp2, 88.7228, 1000000} {
			floats := []float32{x}
			for range 40 {
				floats = append(floats, math.Nextafter32(floats[len(floats)-1], infinite))
			}
			i := between(x, floats[40]+0)
			if f.hasOver(i) {
				wantMembers(t, f, i, floats)
			}
		}
	}
}

// Enclosures over parts are parts, as there are no other values.
func TestEnclosuresOverParts(t *testing.T) {
	for _, f := range realFunctions {
		for _, i := range append(someIntervals(), between(-2, 5), between(0.25, 7), between(1, maxAngle)) {
			if !f.hasOver(i) {
				continue
			}
			over, _ := f.over(i)
			for _, p := range partsOf(i) {
				part, code := f.over(p)
				if code != impl.ErrNone || !isPart(part, over) {
					t.Errorf("%sOver(%s) = %s, %d, is no part of %s, that over %s", f.name, named(p), named(part), code, named(over), named(i))
				}
			}
		}
	}
}

func TestEnclosureExamples(t *testing.T) {
	const halfLow, halfHigh = 0x1.921fb4p0, 0x1.921fb6p0
	for _, e := range []struct {
		f       realFunction
		i, want impl.Interval
	}{
		{exponential, point(0), point(1)},
		{exponential, between(0, 1), between(1, 0x1.5bf0aap1)},
		{exponential, between(-1, 1), between(0x1.78b562p-2, 0x1.5bf0aap1)},
		{exponential, allReals(), between(0, infinite)},
		{exponential, between(-infinite, 0), between(0, 1)},
		{exponential, between(0, infinite), between(1, infinite)},
		{exponential, between(-infinite, -greatest), between(0, least)},
		{exponential, between(-greatest, greatest), between(0, infinite)},
		{exponential, between(-2000, -1000), between(0, least)},
		{exponential, between(-greatest, -greatest), between(0, least)},
		{exponential, between(0x1.62e42ep6, 0x1.62e43p6), between(0x1.ffff08p127, infinite)},
		// The Low would be infinite with a plus sign.
		{exponential, between(0x1.62e43p6, 90), between(greatest, infinite)},
		{exponential, between(1000, 2000), between(greatest, infinite)},
		{exponential, between(greatest, infinite), between(greatest, infinite)},
		{logarithm, point(1), point(0)},
		{logarithm, between(1, 2), between(0, 0x1.62e43p-1)},
		{logarithm, between(0.5, 1), between(-0x1.62e43p-1, 0)},
		{logarithm, between(0.5, 2), between(-0x1.62e43p-1, 0x1.62e43p-1)},
		{logarithm, point(least), between(-0x1.9d1dap6, -0x1.9d1d9ep6)},
		{logarithm, between(least, infinite), between(-0x1.9d1dap6, infinite)},
		{logarithm, between(greatest, infinite), between(0x1.62e42ep6, infinite)},
		{logarithm, between(least, greatest), between(-0x1.9d1dap6, 0x1.62e43p6)},
		{arcusTangent, point(0), point(0)},
		{arcusTangent, between(0, 1), between(0, 0x1.921fb6p-1)},
		{arcusTangent, between(-1, 0), between(-0x1.921fb6p-1, 0)},
		{arcusTangent, allReals(), between(-halfHigh, halfHigh)},
		{arcusTangent, between(-infinite, 0), between(-halfHigh, 0)},
		{arcusTangent, between(0, infinite), between(0, halfHigh)},
		{arcusTangent, between(greatest, infinite), between(halfLow, halfHigh)},
		{arcusTangent, between(-infinite, -greatest), between(-halfHigh, -halfLow)},
		{arcusTangent, point(least), between(0, least)},
		{arcusTangent, point(-least), between(-least, 0)},
		{sine, point(0), point(0)},
		{sine, point(least), between(0, least)},
		{sine, point(-least), between(-least, 0)},
		{sine, between(-2*least, -least), between(-2*least, 0)},
		{sine, between(0, 1), between(0, 0x1.aed54ap-1)},
		{sine, between(-1, 0), between(-0x1.aed54ap-1, 0)},
		{sine, point(1), between(0x1.aed548p-1, 0x1.aed54ap-1)},
		{sine, between(0, 2), between(0, 1)},
		{sine, between(1, 2), between(0x1.aed548p-1, 1)},
		{sine, between(2, 3), between(0x1.210386p-3, 0x1.d18f7p-1)},
		{sine, between(2, 4), between(-0x1.837b9ep-1, 0x1.d18f7p-1)},
		{sine, between(4, 5), between(-1, -0x1.837b9cp-1)},
		{sine, between(2, 5), between(-1, 0x1.d18f7p-1)},
		{sine, between(-2, 2), between(-1, 1)},
		{sine, between(1, 5), between(-1, 1)},
		{sine, between(0, 100), between(-1, 1)},
		{sine, between(-maxAngle, maxAngle), between(-1, 1)},
		{sine, point(maxAngle), between(0x1.526ccap-2, 0x1.526cccp-2)},
		// Right angles are between these ends, or next to them outside.
		{sine, between(halfLow, halfHigh), between(0x1.fffffep-1, 1)},
		{sine, point(halfLow), between(0x1.fffffep-1, 1)},
		{sine, between(1, 0x1.920fb6p0), between(0x1.aed548p-1, 1)},
		{sine, between(1, 0x1.9p0), between(0x1.aed548p-1, 0x1.fffb7ep-1)},
		{sine, between(0x1.2d97c6p2, 0x1.2d97c8p2), between(-1, -0x1.fffffep-1)},
	} {
		wantOver(t, e.f, e.i, e.want)
	}
}
