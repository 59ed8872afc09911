package tests

import (
	"fmt"
	"math/big"
	"slices"
	"testing"

	"loop.example/g01172/impl"
)

// ofOneInterval are functions of an interval; they tell whether all but the code is a zero value.
// Their other arguments would be errors, too.
var ofOneInterval = []struct {
	name string
	call func(i impl.Interval) (isZero bool, code int64)
}{
	{"PowerOfInterval by 2", func(i impl.Interval) (bool, int64) { return zeroInterval(impl.PowerOfInterval(i, 2)) }},
	{"PowerOfInterval by 0", func(i impl.Interval) (bool, int64) { return zeroInterval(impl.PowerOfInterval(i, 0)) }},
	{"PowerOfInterval by -1", func(i impl.Interval) (bool, int64) { return zeroInterval(impl.PowerOfInterval(i, -1)) }},
	{"PowerOfInterval by 21", func(i impl.Interval) (bool, int64) { return zeroInterval(impl.PowerOfInterval(i, 21)) }},
	{"RootOfInterval", func(i impl.Interval) (bool, int64) { return zeroInterval(impl.RootOfInterval(i)) }},
	{"AbsoluteInterval", func(i impl.Interval) (bool, int64) { return zeroInterval(impl.AbsoluteInterval(i)) }},
	{"NegateInterval", func(i impl.Interval) (bool, int64) { return zeroInterval(impl.NegateInterval(i)) }},
	{"WidenInterval", func(i impl.Interval) (bool, int64) { return zeroInterval(impl.WidenInterval(i)) }},
	{"HasFloat of 1", func(i impl.Interval) (bool, int64) { return zeroBool(impl.HasFloat(i, 1)) }},
	{"HasFloat of NaN", func(i impl.Interval) (bool, int64) { return zeroBool(impl.HasFloat(i, notANumber)) }},
	{"HasFloat of an infinite float", func(i impl.Interval) (bool, int64) { return zeroBool(impl.HasFloat(i, -infinite)) }},
	{"HasDyadic of 0", func(i impl.Interval) (bool, int64) { return zeroBool(impl.HasDyadic(i, impl.Dyadic{})) }},
	{"HasDyadic of none", func(i impl.Interval) (bool, int64) { return zeroBool(impl.HasDyadic(i, impl.Dyadic{Exponent: 1})) }},
	{"WidthOf", func(i impl.Interval) (bool, int64) { return zeroFloat(impl.WidthOf(i)) }},
	{"MiddleOf", func(i impl.Interval) (bool, int64) { return zeroFloat(impl.MiddleOf(i)) }},
	{"HalvesOf", func(i impl.Interval) (bool, int64) {
		lower, upper, code := impl.HalvesOf(i)
		return sameIntervals(lower, impl.Interval{}) && sameIntervals(upper, impl.Interval{}), code
	}},
	{"IntervalText", func(i impl.Interval) (bool, int64) {
		text, code := impl.IntervalText(i)
		return text == "", code
	}},
}

// ofTwoIntervals are functions of two intervals, as those of one.
var ofTwoIntervals = []struct {
	name string
	call func(i, j impl.Interval) (isZero bool, code int64)
}{
	{"AddIntervals", func(i, j impl.Interval) (bool, int64) { return zeroInterval(impl.AddIntervals(i, j)) }},
	{"SubtractIntervals", func(i, j impl.Interval) (bool, int64) { return zeroInterval(impl.SubtractIntervals(i, j)) }},
	{"MultiplyIntervals", func(i, j impl.Interval) (bool, int64) { return zeroInterval(impl.MultiplyIntervals(i, j)) }},
	{"DivideIntervals", func(i, j impl.Interval) (bool, int64) {
		list, code := impl.DivideIntervals(i, j)
		return len(list) == 0, code
	}},
	{"HullOfIntervals", func(i, j impl.Interval) (bool, int64) { return zeroInterval(impl.HullOfIntervals(i, j)) }},
	{"MeetOfIntervals", func(i, j impl.Interval) (bool, int64) { return zeroInterval(impl.MeetOfIntervals(i, j)) }},
	{"IsPartOf", func(i, j impl.Interval) (bool, int64) { return zeroBool(impl.IsPartOf(i, j)) }},
	{"OrderOfIntervals", func(i, j impl.Interval) (bool, int64) {
		order, code := impl.OrderOfIntervals(i, j)
		return order == 0, code
	}},
}

func zeroInterval(i impl.Interval, code int64) (bool, int64) {
	return sameIntervals(i, impl.Interval{}), code
}

func zeroBool(b bool, code int64) (bool, int64) {
	return !b, code
}

func zeroFloat(x float32, code int64) (bool, int64) {
	return same(x, 0), code
}

// ErrInvalid goes ahead of all other errors: of exponents and floats outside their range, of what
// has no root, meet, middle or halves.
func TestIntervalsThatAreNone(t *testing.T) {
	for _, bad := range noIntervals() {
		for _, f := range ofOneInterval {
			if isZero, code := f.call(bad); !isZero || code != impl.ErrInvalid {
				t.Errorf("%s and %s: code %d, zero values: %v", f.name, named(bad), code, isZero)
			}
		}
		others := append(noIntervals(), someIntervals()...)
		for _, other := range others {
			for _, f := range ofTwoIntervals {
				if isZero, code := f.call(bad, other); !isZero || code != impl.ErrInvalid {
					t.Errorf("%s: code %d, zero values: %v", callOfTwo(f.name, bad, other), code, isZero)
				}
				if isZero, code := f.call(other, bad); !isZero || code != impl.ErrInvalid {
					t.Errorf("%s: code %d, zero values: %v", callOfTwo(f.name, other, bad), code, isZero)
				}
			}
		}
	}
}

func TestIntervalsHaveNoFloatsThatAreNotFinite(t *testing.T) {
	for _, i := range someIntervals() {
		for _, x := range notFinite() {
			has, code := impl.HasFloat(i, x)
			wantBool(t, fmt.Sprintf("HasFloat(%s, %v)", named(i), x), has, code, false, impl.ErrRange)
		}
	}
}

func TestIntervalsHaveNoNumbersThatAreNone(t *testing.T) {
	for _, i := range []impl.Interval{{}, between(1, 2), allReals(), between(-greatest, 0)} {
		for _, d := range badDyadics() {
			has, code := impl.HasDyadic(i, d)
			wantBool(t, fmt.Sprintf("HasDyadic(%s, %v)", named(i), d), has, code, false, impl.ErrInvalid)
		}
	}
	for _, i := range noIntervals() {
		for _, d := range append(badDyadics(), someDyadics()[:10]...) {
			has, code := impl.HasDyadic(i, d)
			wantBool(t, fmt.Sprintf("HasDyadic(%s, %v)", named(i), d), has, code, false, impl.ErrInvalid)
		}
	}
}

func TestNumbersOfIntervalsAreNotChanged(t *testing.T) {
	numbers := append(someDyadics(), dyadic(t, big.NewInt(3), -1), dyadic(t, big.NewInt(-5), -200), dyadic(t, power(48, 1), -40))
	for _, d := range numbers {
		for _, i := range []impl.Interval{{}, between(1, 2), between(-greatest, least), allReals()} {
			given, room := spaciousDyadic(d)
			before := slices.Clone(room)
			_, _ = impl.HasDyadic(i, given)
			if !slices.Equal(room, before) || !sameDyadics(given, d) {
				t.Errorf("HasDyadic(%s, %v) changes its argument", named(i), d)
			}
		}
	}
}
