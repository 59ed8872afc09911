package tests

import (
	"fmt"
	"math"
	"slices"
	"testing"

	"loop.example/g01172/impl"
)

// kindsAndOthers are the kinds of SpreadOf and integers that are none of them.
var kindsAndOthers = append([]int64{-1, 0, 1, 2, 3, 4}, extremes...)

func wantSpread(t *testing.T, x, y float32, kind int64, wantLow, wantHigh float32, wantCode int64) {
	t.Helper()
	low, high, code := impl.SpreadOf(x, y, kind)
	call := fmt.Sprintf("SpreadOf(%v, %v, %d)", x, y, kind)
	wantFloat(t, "the low float of "+call, low, code, wantLow, wantCode)
	wantFloat(t, "the high float of "+call, high, code, wantHigh, wantCode)
}

// ErrInvalid goes ahead of ErrRange and of ErrState, whichever float is not finite.
func TestOperationsOnFloatsThatAreNotFinite(t *testing.T) {
	otherNaN := math.Float32frombits(0xffc12345)
	bad := []float32{notANumber, otherNaN, infinite, -infinite}
	allModes := slices.Concat(noModes, modes)
	for _, x := range bad {
		for _, y := range append(bad, 0, minusZero, 1, -greatest) {
			wantNoOperation(t, x, y, allModes)
			wantNoOperation(t, y, x, allModes)
		}
		for _, mode := range allModes {
			root, flags, code := impl.RootIn(x, mode)
			wantResult(t, fmt.Sprintf("RootIn(%v, %d)", x, mode), root, flags, code, 0, 0, impl.ErrInvalid)
		}
	}
}

// wantNoOperation checks that floats of which one is not finite are ErrInvalid everywhere.
func wantNoOperation(t *testing.T, x, y float32, allModes []int64) {
	t.Helper()
	for _, mode := range allModes {
		for _, op := range operations {
			z, flags, code := op.call(x, y, mode)
			wantResult(t, fmt.Sprintf("%s(%v, %v, %d)", op.name, x, y, mode), z, flags, code, 0, 0, impl.ErrInvalid)
		}
		for _, c := range [][3]float32{{x, y, 1}, {x, 0, y}, {-1, x, y}} {
			z, flags, code := impl.FusedIn(c[0], c[1], c[2], mode)
			wantResult(t, fmt.Sprintf("FusedIn(%v, %d)", c, mode), z, flags, code, 0, 0, impl.ErrInvalid)
		}
	}
	for _, kind := range kindsAndOthers {
		wantSpread(t, x, y, kind, 0, 0, impl.ErrInvalid)
	}
	rest, code := impl.RemainderOf(x, y)
	wantFloat(t, fmt.Sprintf("RemainderOf(%v, %v)", x, y), rest, code, 0, impl.ErrInvalid)
	isExact, code := impl.IsExactSum(x, y)
	if isExact || code != impl.ErrInvalid {
		t.Errorf("IsExactSum(%v, %v) = %v, %d", x, y, isExact, code)
	}
}

// ErrRange goes ahead of ErrState: divisors that are zeros and roots of floats less than 0 are among
// these.
func TestModesThatAreNoneForOperations(t *testing.T) {
	for _, mode := range noModes {
		for _, x := range []float32{0, minusZero, 1, -2, least, -greatest} {
			for _, y := range []float32{0, minusZero, 3, greatest} {
				for _, op := range operations {
					z, flags, code := op.call(x, y, mode)
					wantResult(t, fmt.Sprintf("%s(%v, %v, %d)", op.name, x, y, mode), z, flags, code, 0, 0, impl.ErrRange)
				}
				z, flags, code := impl.FusedIn(x, y, -1, mode)
				wantResult(t, fmt.Sprintf("FusedIn(%v, %v, -1, %d)", x, y, mode), z, flags, code, 0, 0, impl.ErrRange)
			}
			z, flags, code := impl.RootIn(x, mode)
			wantResult(t, fmt.Sprintf("RootIn(%v, %d)", x, mode), z, flags, code, 0, 0, impl.ErrRange)
			z, flags, code = impl.NarrowIn(float64(x), mode)
			wantResult(t, fmt.Sprintf("NarrowIn(%v, %d)", x, mode), z, flags, code, 0, 0, impl.ErrRange)
		}
	}
}

func TestDivisorsThatAreZero(t *testing.T) {
	for _, x := range []float32{0, minusZero, 1, -1, least, -greatest} {
		for _, y := range []float32{0, minusZero} {
			for _, mode := range modes {
				z, flags, code := impl.DivideIn(x, y, mode)
				wantResult(t, fmt.Sprintf("DivideIn(%v, %v, %d)", x, y, mode), z, flags, code, 0, 0, impl.ErrState)
			}
			wantSpread(t, x, y, quotientKind, 0, 0, impl.ErrState)
			rest, code := impl.RemainderOf(x, y)
			wantFloat(t, fmt.Sprintf("RemainderOf(%v, %v)", x, y), rest, code, 0, impl.ErrState)
		}
	}
}

func TestRootsOfFloatsLessThanZero(t *testing.T) {
	for _, x := range []float32{-least, -leastNormal, -1, -4, -greatest} {
		for _, mode := range modes {
			root, flags, code := impl.RootIn(x, mode)
			wantResult(t, fmt.Sprintf("RootIn(%v, %d)", x, mode), root, flags, code, 0, 0, impl.ErrState)
		}
	}
}

// A kind that is none goes ahead of a divisor that is 0; the other kinds take a zero.
func TestKindsThatAreNone(t *testing.T) {
	for _, kind := range kindsAndOthers {
		for _, x := range []float32{0, -1, greatest} {
			for _, y := range []float32{0, minusZero, 2} {
				if kind < sumKind || kind > quotientKind {
					wantSpread(t, x, y, kind, 0, 0, impl.ErrRange)
				} else if kind != quotientKind || y != 0 {
					low, _, _ := operations[kind].call(x, y, impl.Down)
					high, _, _ := operations[kind].call(x, y, impl.Up)
					wantSpread(t, x, y, kind, low, high, impl.ErrNone)
				}
			}
		}
	}
}
