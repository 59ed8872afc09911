package tests

import (
	"fmt"
	"math/big"
	"testing"

	"loop.example/g01172/impl"
)

// exactPair is ExactSum or ExactProduct, with its kind of operation.
type exactPair struct {
	name string
	call func(x, y float32) (impl.Pair, int64)
	kind int
}

var exactPairs = []exactPair{
	{"ExactSum", impl.ExactSum, sumKind},
	{"ExactProduct", impl.ExactProduct, productKind},
}

// wantExact checks that a pair has the exact value and the High of the language, and that there is
// none only where that is infinite or something is left.
func wantExact(t *testing.T, f exactPair, x, y float32) {
	t.Helper()
	s := steps{}
	want, isExact := s.short(f.kind, x, y)
	wantCode := int64(impl.ErrNone)
	switch {
	case s.failed:
		want, wantCode = impl.Pair{}, impl.ErrLimit
	case !isExact:
		want, wantCode = impl.Pair{}, impl.ErrState
	}
	p, code := f.call(x, y)
	call := fmt.Sprintf("%s(%x, %x)", f.name, x, y)
	wantPair(t, call, p, code, want, wantCode)
	if code != impl.ErrNone {
		return
	}
	op := operations[f.kind]
	if pairRat(p).Cmp(op.exact(floatRat(x), floatRat(y))) != 0 {
		t.Errorf("%s = %v has not the exact value", call, p)
	}
	wantFloat(t, "High of "+call, p.High, code, op.language(x, y), impl.ErrNone)
	if !impl.IsPair(p) {
		t.Errorf("%s = %v is no pair", call, p)
	}
}

func TestExactSumsAndProducts(t *testing.T) {
	pairs(func(x, y float32) {
		for _, f := range exactPairs {
			wantExact(t, f, x, y)
		}
	})
}

// Here the floats of each exponent are combined with last places of theirs, and with factors that
// bring a product below the normal floats or beyond the greatest one.
func TestExactSumsAndProductsOfAllKinds(t *testing.T) {
	factors := []float32{0.75, -1.5, 0x1.000002p0, 0x1.fffffep-1, -0x1.fffffep-24, 0x1.000002p-63, 0x1.000002p-126, 0x1.8p100, least}
	everyKind(func(x float32) {
		if x-x != 0 {
			return
		}
		for _, y := range append(lastPlaces(x), x, turned(x)) {
			wantExact(t, exactPairs[0], x, y)
			wantExact(t, exactPairs[0], y, x)
		}
		for _, y := range factors {
			wantExact(t, exactPairs[1], x, y)
			wantExact(t, exactPairs[1], y, x)
		}
	})
}

// No sum of finite floats is ErrState, and none is lost unless the nearest float is infinite.
func TestExactSumsHaveNoRest(t *testing.T) {
	pairs(func(x, y float32) {
		_, code := impl.ExactSum(x, y)
		near := x + y
		if (near-near == 0) != (code == impl.ErrNone) || code == impl.ErrState {
			t.Errorf("ExactSum(%x, %x) has the code %d", x, y, code)
		}
	})
}

// pairExample is a result that is written out.
type pairExample struct {
	x, y float32
	want impl.Pair
	code int64
}

func wantPairExamples(t *testing.T, f exactPair, examples []pairExample) {
	t.Helper()
	for _, c := range examples {
		p, code := f.call(c.x, c.y)
		wantPair(t, fmt.Sprintf("%s(%x, %x)", f.name, c.x, c.y), p, code, c.want, c.code)
		p, code = f.call(c.y, c.x)
		wantPair(t, fmt.Sprintf("%s(%x, %x)", f.name, c.y, c.x), p, code, c.want, c.code)
	}
}

func TestExactSumsThatAreWrittenOut(t *testing.T) {
	wantPairExamples(t, exactPairs[0], []pairExample{
		{x: 1, y: 0x1p-30, want: impl.Pair{High: 1, Low: 0x1p-30}},
		{x: 1, y: 2, want: impl.Pair{High: 3}},
		{x: 1, y: -0x1p-30, want: impl.Pair{High: 1, Low: -0x1p-30}},
		// Here the sum is half between two floats.
		{x: 1, y: 0x1p-24, want: impl.Pair{High: 1, Low: 0x1p-24}},
		{x: 0x1.000002p0, y: 0x1p-24, want: impl.Pair{High: 0x1.000004p0, Low: -0x1p-24}},
		{x: 0x1.000002p0, y: -0x1p-24, want: impl.Pair{High: 1, Low: 0x1p-24}},
		{x: 16777216, y: 1, want: impl.Pair{High: 16777216, Low: 1}},
		{x: 16777218, y: 1, want: impl.Pair{High: 16777220, Low: -1}},
		// Zeros of either sign, and opposite floats.
		{x: 0, y: 0},
		{x: minusZero, y: minusZero, want: impl.Pair{High: minusZero}},
		{x: 0, y: minusZero},
		{x: 1, y: -1},
		{x: least, y: -least},
		{x: greatest, y: -greatest},
		{x: 5, y: 0, want: impl.Pair{High: 5}},
		{x: 5, y: minusZero, want: impl.Pair{High: 5}},
		{x: -5, y: minusZero, want: impl.Pair{High: -5}},
		// Subnormal floats.
		{x: least, y: least, want: impl.Pair{High: 2 * least}},
		{x: leastNormal, y: -least, want: impl.Pair{High: greatestSubnorm}},
		{x: 1, y: -least, want: impl.Pair{High: 1, Low: -least}},
		{x: 0x1p-125, y: 3 * least, want: impl.Pair{High: 0x1.000004p-125, Low: -least}},
		// Next to the greatest float and beyond it.
		{x: greatest, y: 0x1.fffffep102, want: impl.Pair{High: greatest, Low: 0x1.fffffep102}},
		{x: greatest, y: least, want: impl.Pair{High: greatest, Low: least}},
		{x: -greatest, y: -0x1.fffffep102, want: impl.Pair{High: -greatest, Low: -0x1.fffffep102}},
		{x: 0x1p127, y: 0x1.fffffcp126, want: impl.Pair{High: greatest, Low: 0}},
		{x: greatest, y: 0x1p103, code: impl.ErrLimit},
		{x: 0x1p127, y: 0x1p127, code: impl.ErrLimit},
		{x: -greatest, y: -0x1p103, code: impl.ErrLimit},
		{x: greatest, y: -0x1p103, want: impl.Pair{High: 0x1.fffffcp127, Low: 0x1p103}},
	})
}

func TestExactProductsThatAreWrittenOut(t *testing.T) {
	wantPairExamples(t, exactPairs[1], []pairExample{
		{x: 3, y: 5, want: impl.Pair{High: 15}},
		{x: -3, y: 5, want: impl.Pair{High: -15}},
		{x: 0x1.00001p0, y: 0x1.00001p0, want: impl.Pair{High: 0x1.00002p0, Low: 0x1p-40}},
		{x: 0x1.00001p0, y: -0x1.00001p0, want: impl.Pair{High: -0x1.00002p0, Low: -0x1p-40}},
		// Here the product is half between two floats.
		{x: 0x1.8p0, y: 0x1.000002p0, want: impl.Pair{High: 0x1.800004p0, Low: -0x1p-24}},
		{x: 0x1.8p0, y: 0x1.000006p0, want: impl.Pair{High: 0x1.800008p0, Low: 0x1p-24}},
		{x: 0x1.fffffep0, y: 0x1.fffffep0, want: impl.Pair{High: 0x1.fffffcp1, Low: 0x1p-46}},
		// Zeros of either sign.
		{x: 0, y: 0},
		{x: 0, y: minusZero, want: impl.Pair{High: minusZero}},
		{x: minusZero, y: minusZero},
		{x: 0, y: -7, want: impl.Pair{High: minusZero}},
		{x: minusZero, y: 7, want: impl.Pair{High: minusZero}},
		{x: minusZero, y: -greatest},
		// Subnormal floats, and products that are rounded to 0.
		{x: least, y: 0x1p127, want: impl.Pair{High: 0x1p-22}},
		{x: least, y: 3, want: impl.Pair{High: 3 * least}},
		{x: least, y: 0.5, code: impl.ErrState},
		{x: least, y: 0.75, code: impl.ErrState},
		{x: least, y: 1.5, code: impl.ErrState},
		{x: least, y: -0.25, code: impl.ErrState},
		{x: least, y: least, code: impl.ErrState},
		{x: -leastNormal, y: leastNormal, code: impl.ErrState},
		{x: 0x1p-75, y: 0x1p-74, want: impl.Pair{High: least}},
		{x: 0x1p-75, y: 0x1p-75, code: impl.ErrState},
		// The difference is just the value of a float, too small, and of one bit too many.
		{x: 0x1.00001p-55, y: 0x1.00001p-54, want: impl.Pair{High: 0x1.00002p-109, Low: least}},
		{x: 0x1.00001p-55, y: 0x1.00001p-55, code: impl.ErrState},
		{x: 0x1.fffffep-50, y: 0x1.fffffep-53, want: impl.Pair{High: 0x1.fffffcp-102, Low: least}},
		{x: 0x1.fffffep-51, y: 0x1.fffffep-53, code: impl.ErrState},
		{x: 0x1.000002p-60, y: 0x1.000802p-65, code: impl.ErrState},
		// Next to the greatest float and beyond it.
		{x: greatest, y: 1, want: impl.Pair{High: greatest}},
		{x: 0x1.fffffep63, y: 0x1.fffffep63, want: impl.Pair{High: 0x1.fffffcp127, Low: 0x1p80}},
		{x: 0x1.fffffep63, y: 0x1.000002p64, code: impl.ErrLimit},
		{x: 0x1p64, y: 0x1.fffffep63, want: impl.Pair{High: greatest}},
		{x: 0x1p64, y: -0x1p64, code: impl.ErrLimit},
		{x: greatest, y: 0x1.000002p0, code: impl.ErrLimit},
		{x: greatest, y: -greatest, code: impl.ErrLimit},
	})
}

// One is half of a last place beyond the greatest float, which overflows; the other is less.
func TestExactProductsNextToAnOverflow(t *testing.T) {
	half := new(big.Rat).Add(floatRat(greatest), step(103))
	found := map[int64]bool{}
	for _, x := range disordered(14, 3000) {
		if x < 1 {
			continue
		}
		for _, y := range nearestTo(new(big.Rat).Quo(half, floatRat(x))) {
			wantExact(t, exactPairs[1], x, y)
			_, code := impl.ExactProduct(x, y)
			found[code] = true
		}
	}
	if !found[impl.ErrNone] || !found[impl.ErrLimit] {
		t.Errorf("the codes are %v", found)
	}
}
