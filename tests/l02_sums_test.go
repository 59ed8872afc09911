package tests

import (
	"fmt"
	"math/big"
	"testing"

	"loop.example/g01172/impl"
)

func TestSumsDifferencesAndProductsOfWholes(t *testing.T) {
	all := someNumbers()
	for _, m := range all {
		for _, n := range all {
			a, b := wholeOfBig(m), wholeOfBig(n)
			names := fmt.Sprintf("(%v, %v)", m, n)
			sum, code := impl.AddWholes(a, b)
			wantWhole(t, "AddWholes"+names, sum, code, new(big.Int).Add(m, n))
			difference, code := impl.SubtractWholes(a, b)
			wantWhole(t, "SubtractWholes"+names, difference, code, new(big.Int).Sub(m, n))
			product, code := impl.MultiplyWholes(a, b)
			wantWhole(t, "MultiplyWholes"+names, product, code, new(big.Int).Mul(m, n))
		}
	}
}

func TestSumsAreUndoneByDifferences(t *testing.T) {
	all := someNumbers()
	for _, m := range all {
		for _, n := range all {
			sum, code := impl.AddWholes(wholeOfBig(m), wholeOfBig(n))
			if code != impl.ErrNone {
				continue
			}
			back, code := impl.SubtractWholes(sum, wholeOfBig(n))
			wantWhole(t, fmt.Sprintf("SubtractWholes of the sum of %v and %v", m, n), back, code, m)
		}
	}
}

func TestResultsOf100LimbsAndMore(t *testing.T) {
	greatestWhole, one := power(2400, -1), big.NewInt(1)
	for _, c := range []struct{ m, n *big.Int }{
		{greatestWhole, new(big.Int)},
		{greatestWhole, one},
		{power(2400, -2), one},
		{greatestWhole, greatestWhole},
		{power(2399, 0), power(2399, -1)},
		{power(2399, 0), power(2399, 0)},
		{power(1200, -1), power(1200, 1)},
		{power(1200, 0), power(1200, 0)},
		{power(1200, 0), power(1199, 0)},
		{power(1200, 0), power(1200, -1)},
		{power(1201, -1), power(1199, 0)},
	} {
		for _, sign := range []int64{1, -1} {
			m := new(big.Int).Mul(c.m, big.NewInt(sign))
			n := new(big.Int).Mul(c.n, big.NewInt(sign))
			opposite := new(big.Int).Neg(n)
			sum, code := impl.AddWholes(wholeOfBig(m), wholeOfBig(n))
			wantWhole(t, "AddWholes", sum, code, new(big.Int).Add(m, n))
			difference, code := impl.SubtractWholes(wholeOfBig(m), wholeOfBig(opposite))
			wantWhole(t, "SubtractWholes", difference, code, new(big.Int).Add(m, n))
			product, code := impl.MultiplyWholes(wholeOfBig(m), wholeOfBig(n))
			wantWhole(t, "MultiplyWholes", product, code, new(big.Int).Mul(m, n))
		}
	}
}
