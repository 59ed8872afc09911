package tests

import (
	"fmt"
	"math/big"
	"testing"

	"loop.example/g01172/impl"
)

// pairStep is an operation on pairs, with the steps told for it and its exact result.
type pairStep struct {
	name  string
	call  func(p, q impl.Pair) (impl.Pair, int64)
	steps func(s *steps, p, q impl.Pair) impl.Pair
	exact func(x, y *big.Rat) *big.Rat
}

var (
	addPairs      = pairStep{"AddPairs", impl.AddPairs, (*steps).sum, ratOperation((*big.Rat).Add)}
	multiplyPairs = pairStep{"MultiplyPairs", impl.MultiplyPairs, (*steps).product, ratOperation((*big.Rat).Mul)}
	dividePairs   = pairStep{"DividePairs", impl.DividePairs, (*steps).quotient, ratOperation((*big.Rat).Quo)}
	pairSteps     = []pairStep{addPairs, multiplyPairs, dividePairs}
)

// wantSteps checks that a result is the one of the steps and a pair, or ErrLimit if it is none.
func wantSteps(t *testing.T, f pairStep, p, q impl.Pair) {
	t.Helper()
	s := steps{}
	want, wantCode := f.steps(&s, p, q), int64(impl.ErrNone)
	if s.failed || !isPair(want) {
		want, wantCode = impl.Pair{}, impl.ErrLimit
	}
	if f.name == dividePairs.name && q.High == 0 {
		want, wantCode = impl.Pair{}, impl.ErrState
	}
	got, code := f.call(p, q)
	wantPair(t, fmt.Sprintf("%s({%x, %x}, {%x, %x})", f.name, p.High, p.Low, q.High, q.Low), got, code, want, wantCode)
	if !impl.IsPair(got) {
		t.Errorf("%s(%v, %v) = %v is no pair", f.name, p, q, got)
	}
}

func TestPairsAreCombinedInTheStepsTold(t *testing.T) {
	all := somePairs()
	for _, p := range all {
		for _, q := range all {
			wantSteps(t, addPairs, p, q)
			wantSteps(t, multiplyPairs, p, q)
			if q.High != 0 {
				wantSteps(t, dividePairs, p, q)
			}
		}
	}
}

func TestNearPairsAreCombinedInTheStepsTold(t *testing.T) {
	nearPairs(func(p, q impl.Pair) {
		wantSteps(t, addPairs, p, q)
		wantSteps(t, multiplyPairs, p, q)
		if q.High != 0 {
			wantSteps(t, dividePairs, p, q)
		}
	})
}

// Here floats on the way are next to the greatest one and beyond it: the product of the divisor
// and the first quotient, too, and the sum of both parts of the quotient.
func TestStepsNextToTheGreatestFloat(t *testing.T) {
	next := noise(15)
	codes := map[int64]int{}
	for _, x := range disordered(16, 4000) {
		p := impl.Pair{High: greatest - float32(next()%8)*0x1p104}
		q := impl.Pair{High: 1 + float32(next()%32)*0x1p-23 - float32(next()%16)*0x1p-24}
		pLows, qLows := lastPlaces(p.High), lastPlaces(q.High)
		p.Low, q.Low = pLows[next()%uint64(len(pLows))], qLows[next()%uint64(len(qLows))]
		scaled := impl.Pair{High: q.High * 0x1p126, Low: q.Low * 0x1p126}
		other := impl.Pair{High: pLows[next()%uint64(len(pLows))], Low: x * 0}
		if !isPair(p) || !isPair(q) || !isPair(other) {
			continue
		}
		for _, divisor := range []impl.Pair{q, scaled, {High: q.High / 4, Low: q.Low / 4}} {
			_, code := impl.DividePairs(p, divisor)
			codes[code]++
			wantSteps(t, dividePairs, p, divisor)
		}
		wantSteps(t, multiplyPairs, p, q)
		wantSteps(t, addPairs, p, other)
	}
	if codes[impl.ErrNone] < 100 || codes[impl.ErrLimit] < 100 {
		t.Errorf("the numbers of codes are %v", codes)
	}
}

// What is lost is little where no float on the way is subnormal.
func TestResultsOfPairsAreNearTheExactOnes(t *testing.T) {
	small, large := step(-40), step(40)
	isMiddle := func(r *big.Rat) bool {
		size := new(big.Rat).Abs(r)
		return size.Cmp(small) > 0 && size.Cmp(large) < 0
	}
	seen := 0
	nearPairs(func(p, q impl.Pair) {
		x, y := pairRat(p), pairRat(q)
		if !isMiddle(x) || !isMiddle(y) {
			return
		}
		for _, f := range pairSteps {
			got, _ := f.call(p, q)
			want := f.exact(x, y)
			lost := new(big.Rat).Sub(pairRat(got), want)
			bound := new(big.Rat).Abs(want)
			if f.name == addPairs.name {
				bound.Abs(x).Add(bound, new(big.Rat).Abs(y))
			}
			if lost.Abs(lost).Cmp(bound.Mul(bound, step(-42))) > 0 {
				t.Errorf("%s(%v, %v) = %v", f.name, p, q, got)
			}
			seen++
		}
	})
	if seen < 500 {
		t.Errorf("only %d results", seen)
	}
}

// stepExample is a result that is written out.
type stepExample struct {
	f    pairStep
	p, q impl.Pair
	want impl.Pair
	code int64
}

func wantStepExamples(t *testing.T, examples []stepExample) {
	t.Helper()
	for _, c := range examples {
		got, code := c.f.call(c.p, c.q)
		wantPair(t, fmt.Sprintf("%s({%x, %x}, {%x, %x})", c.f.name, c.p.High, c.p.Low, c.q.High, c.q.Low), got, code, c.want, c.code)
	}
}

func TestResultsOfPairsThatAreWrittenOut(t *testing.T) {
	one, third := impl.Pair{High: 1, Low: 0x1p-30}, impl.Pair{High: 0x1.555556p-2, Low: -0x1.555556p-27}
	wantStepExamples(t, []stepExample{
		{f: addPairs, p: one, q: one, want: impl.Pair{High: 2, Low: 0x1p-29}},
		{f: addPairs, p: one, q: impl.Pair{High: -1, Low: -0x1p-30}},
		{f: addPairs, p: one, q: impl.Pair{High: -1}, want: impl.Pair{High: 0x1p-30}},
		{f: addPairs, p: one, q: impl.Pair{High: -1, Low: 0x1p-60}, want: impl.Pair{High: 0x1p-30, Low: 0x1p-60}},
		{f: addPairs, p: third, q: third, want: impl.Pair{High: 0x1.555556p-1, Low: -0x1.555556p-26}},
		{f: addPairs, p: impl.Pair{High: 1}, q: impl.Pair{High: 0x1p-100}, want: impl.Pair{High: 1, Low: 0x1p-100}},
		{f: addPairs, p: impl.Pair{High: 16777216}, q: impl.Pair{High: 1}, want: impl.Pair{High: 16777216, Low: 1}},
		{f: multiplyPairs, p: one, q: one, want: impl.Pair{High: 1, Low: 0x1p-29}},
		{f: multiplyPairs, p: third, q: impl.Pair{High: 3}, want: impl.Pair{High: 1, Low: 0}},
		{f: multiplyPairs, p: impl.Pair{High: 0x1.00001p0}, q: impl.Pair{High: 0x1.00001p0}, want: impl.Pair{High: 0x1.00002p0, Low: 0x1p-40}},
		{f: dividePairs, p: impl.Pair{High: 1}, q: impl.Pair{High: 3}, want: third},
		{f: dividePairs, p: one, q: one, want: impl.Pair{High: 1}},
		{f: dividePairs, p: impl.Pair{High: 6}, q: impl.Pair{High: -3}, want: impl.Pair{High: -2, Low: minusZero}},
		// Signs of zeros are those of the steps.
		{f: addPairs, p: impl.Pair{High: minusZero, Low: minusZero}, q: impl.Pair{High: minusZero, Low: minusZero}},
		{f: multiplyPairs, p: impl.Pair{High: minusZero}, q: impl.Pair{High: 5}},
		{f: multiplyPairs, p: impl.Pair{High: 5}, q: impl.Pair{High: -3, Low: minusZero}, want: impl.Pair{High: -15}},
		{f: dividePairs, p: impl.Pair{High: minusZero}, q: impl.Pair{High: 1}},
		{f: dividePairs, p: impl.Pair{}, q: impl.Pair{High: -1}, want: impl.Pair{High: minusZero, Low: minusZero}},
		{f: dividePairs, p: impl.Pair{High: 1}, q: impl.Pair{High: -1}, want: impl.Pair{High: -1, Low: minusZero}},
		{f: dividePairs, p: impl.Pair{High: -1}, q: impl.Pair{High: -1}, want: impl.Pair{High: 1, Low: minusZero}},
	})
}

func TestResultsOfPairsAtTheEndsOfTheFloats(t *testing.T) {
	wantStepExamples(t, []stepExample{
		// Subnormal floats.
		{f: addPairs, p: impl.Pair{High: least}, q: impl.Pair{High: least}, want: impl.Pair{High: 2 * least}},
		{f: multiplyPairs, p: impl.Pair{High: least}, q: impl.Pair{High: least}},
		{f: multiplyPairs, p: impl.Pair{High: -least}, q: impl.Pair{High: 0.5}},
		{f: multiplyPairs, p: impl.Pair{High: least}, q: impl.Pair{High: 1.5}, want: impl.Pair{High: 2 * least}},
		{f: dividePairs, p: impl.Pair{High: 3 * least}, q: impl.Pair{High: 2}, want: impl.Pair{High: 2 * least, Low: minusZero}},
		{f: dividePairs, p: impl.Pair{High: 5 * least}, q: impl.Pair{High: 2}, want: impl.Pair{High: 2 * least}},
		// Here the short product is no pair itself, as its Low is rounded to half of a last place; the
		// product, also that on the way to a quotient, is one.
		{f: multiplyPairs, p: impl.Pair{High: 0x1.6p-62}, q: impl.Pair{High: 0x1.000002p-63}, want: impl.Pair{High: 0x1.600004p-125, Low: -least}},
		{f: dividePairs, p: impl.Pair{High: 0x1.600004p-125}, q: impl.Pair{High: 0x1.6p-62}, want: impl.Pair{High: 0x1.000002p-63, Low: 0x1.745d18p-88}},
		// Next to the greatest float and beyond it.
		{f: addPairs, p: impl.Pair{High: greatest, Low: 0x1p102}, q: impl.Pair{High: 0x1p101}, want: impl.Pair{High: greatest, Low: 0x1.8p102}},
		{f: addPairs, p: impl.Pair{High: greatest, Low: 0x1p102}, q: impl.Pair{High: 0x1p102}, code: impl.ErrLimit},
		{f: addPairs, p: impl.Pair{High: greatest, Low: 0x1.fffffep102}, q: impl.Pair{High: 0x1p79}, code: impl.ErrLimit},
		{f: addPairs, p: impl.Pair{High: greatest}, q: impl.Pair{High: 0x1p103}, code: impl.ErrLimit},
		{f: addPairs, p: impl.Pair{High: -greatest}, q: impl.Pair{High: -greatest}, code: impl.ErrLimit},
		{f: addPairs, p: impl.Pair{High: greatest, Low: 0x1p102}, q: impl.Pair{High: -greatest, Low: -0x1p102}},
		{f: multiplyPairs, p: impl.Pair{High: 0x1p64}, q: impl.Pair{High: 0x1p64}, code: impl.ErrLimit},
		{f: multiplyPairs, p: impl.Pair{High: 0x1p64}, q: impl.Pair{High: -0x1.fffffep63}, want: impl.Pair{High: -greatest}},
		{f: multiplyPairs, p: impl.Pair{High: 0x1p64}, q: impl.Pair{High: 0x1.fffffep63, Low: 0x1p38}, want: impl.Pair{High: greatest, Low: 0x1p102}},
		{f: dividePairs, p: impl.Pair{High: greatest}, q: impl.Pair{High: 0.5}, code: impl.ErrLimit},
		{f: dividePairs, p: impl.Pair{High: -greatest}, q: impl.Pair{High: least}, code: impl.ErrLimit},
		{f: dividePairs, p: impl.Pair{High: 1}, q: impl.Pair{High: least}, code: impl.ErrLimit},
		{f: dividePairs, p: impl.Pair{High: greatest}, q: impl.Pair{High: greatest}, want: impl.Pair{High: 1}},
		{f: dividePairs, p: impl.Pair{High: least}, q: impl.Pair{High: greatest}},
		// The first quotient is finite, but its product with the divisor is not, or both parts together
		// are not.
		{f: dividePairs, p: impl.Pair{High: greatest}, q: impl.Pair{High: 2}, want: impl.Pair{High: 0x1.fffffep126}},
		{f: dividePairs, p: impl.Pair{High: greatest}, q: impl.Pair{High: 2, Low: 0x1p-23}, code: impl.ErrLimit},
		{f: dividePairs, p: impl.Pair{High: 0x1p127, Low: 0x1p103}, q: impl.Pair{High: 0x1.000002p-1, Low: -0x1p-26}, code: impl.ErrLimit},
	})
}
