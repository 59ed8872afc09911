package tests

import (
	"fmt"
	"math"
	"slices"
	"testing"

	"loop.example/g01172/impl"
)

// noAngles are finite floats that are no arguments of the sine, those next to the greatest angles
// among them.
var noAngles = []float32{
	0x1.000002p20, -0x1.000002p20, 0x1p21, -0x1p21, 1e30, -1e30, greatest, -greatest,
}

// noPowers are finite floats that are no arguments of the logarithm.
var noPowers = []float32{0, minusZero, -least, -leastNormal, -1, -2, -greatest}

// ErrInvalid goes ahead of ErrRange, and that of ErrState.
func TestFloatsWithoutValues(t *testing.T) {
	for _, f := range realFunctions {
		for _, mode := range slices.Concat(modes, noModes) {
			for _, x := range notFinite() {
				wantNoValue(t, f, x, mode, impl.ErrInvalid)
			}
		}
		for _, mode := range noModes {
			for _, x := range slices.Concat([]float32{0, minusZero, 1, -1, 0.5, 100, -200}, noAngles, noPowers) {
				wantNoValue(t, f, x, mode, impl.ErrRange)
			}
		}
	}
	for _, mode := range modes {
		for _, x := range noAngles {
			wantNoValue(t, sine, x, mode, impl.ErrRange)
		}
		for _, x := range noPowers {
			wantNoValue(t, logarithm, x, mode, impl.ErrState)
		}
	}
}

func wantNoValue(t *testing.T, f realFunction, x float32, mode, wantCode int64) {
	t.Helper()
	y, code := f.call(x, mode)
	wantFloat(t, fmt.Sprintf("%sIn(%x, %d)", f.name, x, mode), y, code, 0, wantCode)
}

func TestCirclesThatAreNone(t *testing.T) {
	for _, k := range append([]int64{-101, 101, -102, 1000}, extremes...) {
		for _, mode := range slices.Concat(modes, noModes) {
			x, code := impl.CircleIn(k, mode)
			wantFloat(t, fmt.Sprintf("CircleIn(%d, %d)", k, mode), x, code, 0, impl.ErrRange)
		}
	}
	for _, k := range []int64{-100, -1, 0, 1, 4, 100} {
		for _, mode := range noModes {
			x, code := impl.CircleIn(k, mode)
			wantFloat(t, fmt.Sprintf("CircleIn(%d, %d)", k, mode), x, code, 0, impl.ErrRange)
		}
	}
}

// What is no interval may have ends that are errors, too.
func TestEnclosuresOverWhatIsNoInterval(t *testing.T) {
	others := []impl.Interval{
		between(-1, -2), between(0, -1), between(0x1p30, 1), between(-1, -0x1p30), between(0x1p21, notANumber), between(notANumber, -1),
		between(-5, minusZero), between(minusZero, 0x1p21), between(infinite, 0), between(math.Nextafter32(maxAngle, infinite), maxAngle),
	}
	for _, f := range realFunctions {
		for _, i := range append(noIntervals(), others...) {
			wantNoOver(t, f, i, impl.ErrInvalid)
		}
	}
}

func wantNoOver(t *testing.T, f realFunction, i impl.Interval, wantCode int64) {
	t.Helper()
	over, code := f.over(i)
	wantInterval(t, fmt.Sprintf("%sOver(%s)", f.name, named(i)), over, code, impl.Interval{}, wantCode)
}

func TestLogarithmsOverWhatIsNotGreaterThanZero(t *testing.T) {
	for _, i := range []impl.Interval{
		point(0), between(0, least), between(0, 1), between(0, infinite), between(-least, 1), point(-least), point(-1), between(-2, -1),
		between(-1, infinite), between(-infinite, 1), between(-infinite, -1), between(-infinite, 0), allReals(),
	} {
		wantNoOver(t, logarithm, i, impl.ErrState)
	}
	for _, i := range someIntervals() {
		if i.Low <= 0 {
			wantNoOver(t, logarithm, i, impl.ErrState)
		}
	}
}

func TestSinesOverWhatIsOutOfRange(t *testing.T) {
	const beyond = 0x1.000002p20
	for _, i := range []impl.Interval{
		between(0, beyond), between(-beyond, 0), point(beyond), point(-beyond), between(-maxAngle, beyond), between(-beyond, maxAngle),
		between(0, infinite), between(-infinite, 0), allReals(), between(0, greatest), between(-greatest, greatest), between(greatest, infinite),
	} {
		wantNoOver(t, sine, i, impl.ErrRange)
	}
	for _, i := range someIntervals() {
		if !sine.hasOver(i) {
			wantNoOver(t, sine, i, impl.ErrRange)
		}
	}
}

// Arguments stay as they are, and calls with them give the same results again.
func TestArgumentsOfFunctionsAreNotChanged(t *testing.T) {
	for _, f := range realFunctions {
		for _, x := range []float32{0.75, 1, 100, minusZero, -3, notANumber, infinite} {
			given := x
			for _, mode := range append([]int64{7}, modes...) {
				first, code := f.call(given, mode)
				second, again := f.call(given, mode)
				if !same(given, x) || !same(first, second) || code != again {
					t.Errorf("%sIn(%x, %d) is %x, %d, and then %x, %d for %x", f.name, x, mode, first, code, second, again, given)
				}
			}
		}
		for _, i := range append(noIntervals(), point(1), between(0.5, 3), allReals(), between(-1, 0)) {
			given := i
			first, code := f.over(given)
			second, again := f.over(given)
			if !sameIntervals(given, i) || !sameIntervals(first, second) || code != again {
				t.Errorf("%sOver(%s) is %s, %d, and then %s, %d for %s", f.name, named(i), named(first), code, named(second), again, named(given))
			}
		}
	}
}
