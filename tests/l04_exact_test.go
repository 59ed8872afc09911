package tests

import (
	"fmt"
	"math/big"
	"testing"

	"loop.example/g01172/impl"
)

// wantRoundedResult checks an operation against the exact result: each mode takes the float that
// it asks for, and the flags tell what was lost.
func wantRoundedResult(t *testing.T, op operation, x, y float32) {
	t.Helper()
	r := op.exact(floatRat(x), floatRat(y))
	for _, mode := range modes {
		want, wantFlags := roundedRat(r, mode)
		if r.Sign() == 0 {
			want, wantFlags = op.zero(x, y, mode), 0
		}
		z, flags, code := op.call(x, y, mode)
		wantResult(t, fmt.Sprintf("%s(%v, %v, %d)", op.name, x, y, mode), z, flags, code, want, wantFlags, impl.ErrNone)
		if isExact := compareWithFloat(r, z) == 0; isExact != (flags == 0) {
			t.Errorf("%s(%v, %v, %d) = %v with the flags %d", op.name, x, y, mode, z, flags)
		}
	}
}

// operated calls visit with each operation and all pairs that it takes.
func operated(visit func(op operation, kind int64, x, y float32)) {
	pairs(func(x, y float32) {
		for kind, op := range operations {
			if kind != quotientKind || y != 0 {
				visit(op, int64(kind), x, y)
			}
		}
	})
}

func TestOperationsAgainstExactResults(t *testing.T) {
	operated(func(op operation, kind int64, x, y float32) {
		wantRoundedResult(t, op, x, y)
	})
}

// Here the floats of each exponent are combined with one that brings the result to a tie, below
// the normal floats, or beyond the greatest one.
func TestOperationsOnFloatsOfAllKinds(t *testing.T) {
	partners := []float32{0.5, 0.75, -1.5, 3, 0x1.000002p0, 0x1.fffffep-1, -0x1p-126, 0x1.8p100, leastSubnormal}
	everyKind(func(x float32) {
		if x-x != 0 {
			return
		}
		last, _ := impl.LastPlace(x)
		for _, op := range operations[:2] {
			for _, y := range []float32{last, last / 2, -last / 2, last / 4 * 3, -last / 4} {
				wantRoundedResult(t, op, x, y)
			}
		}
		for _, op := range operations[2:] {
			for _, y := range partners {
				wantRoundedResult(t, op, x, y)
			}
		}
	})
}

func TestNearestResultsAreThoseOfTheLanguage(t *testing.T) {
	operated(func(op operation, kind int64, x, y float32) {
		z, flags, code := op.call(x, y, impl.Nearest)
		if flags&impl.FlagOverflow == 0 {
			wantFloat(t, fmt.Sprintf("%s(%v, %v, Nearest)", op.name, x, y), z, code, op.language(x, y), impl.ErrNone)
		}
	})
}

func TestResultsDownAndUpEncloseAllOthers(t *testing.T) {
	operated(func(op operation, kind int64, x, y float32) {
		var results [5]float32
		for _, mode := range modes {
			results[mode], _, _ = op.call(x, y, mode)
		}
		wantEnclosed(t, fmt.Sprintf("%s(%v, %v)", op.name, x, y), results)
	})
}

func TestSpreadOfIsThatOfTheOperations(t *testing.T) {
	operated(func(op operation, kind int64, x, y float32) {
		wantLow, _, _ := op.call(x, y, impl.Down)
		wantHigh, _, _ := op.call(x, y, impl.Up)
		low, high, code := impl.SpreadOf(x, y, kind)
		call := fmt.Sprintf("SpreadOf(%v, %v, %d)", x, y, kind)
		wantFloat(t, "the low float of "+call, low, code, wantLow, impl.ErrNone)
		wantFloat(t, "the high float of "+call, high, code, wantHigh, impl.ErrNone)
	})
}

func TestIsExactSum(t *testing.T) {
	pairs(func(x, y float32) {
		_, flags, _ := impl.AddIn(x, y, impl.Nearest)
		near, _ := new(big.Rat).Add(floatRat(x), floatRat(y)).Float32()
		want := near-near == 0 && new(big.Rat).Add(floatRat(x), floatRat(y)).Cmp(floatRat(near)) == 0
		got, code := impl.IsExactSum(x, y)
		if got != want || got != (flags == 0) || code != impl.ErrNone {
			t.Errorf("IsExactSum(%v, %v) = %v, %d, and AddIn has the flags %d", x, y, got, code, flags)
		}
	})
	for _, c := range []struct {
		x, y float32
		want bool
	}{
		{1, 2, true},
		{0, minusZero, true},
		{1, -1, true},
		{16777216, 1, false},
		{16777216, 2, true},
		{greatest, greatest, false},
		{greatest, 0x1p103, false},
		{greatest, -greatest, true},
		{leastSubnormal, leastSubnormal, true},
		{leastNormal, -leastSubnormal, true},
		{1, leastSubnormal, false},
	} {
		if got, code := impl.IsExactSum(c.x, c.y); got != c.want || code != impl.ErrNone {
			t.Errorf("IsExactSum(%v, %v) = %v, %d", c.x, c.y, got, code)
		}
	}
}
