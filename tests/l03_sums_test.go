package tests

import (
	"fmt"
	"math/big"
	"testing"

	"loop.example/g01172/impl"
)

func TestSumsDifferencesAndProductsOfDyadics(t *testing.T) {
	all := someDyadics()
	for _, c := range all {
		x := ratOf(c)
		for _, d := range all {
			y := ratOf(d)
			names := fmt.Sprintf("(%v, %v)", c, d)
			sum, code := impl.AddDyadics(c, d)
			wantDyadic(t, "AddDyadics"+names, sum, code, new(big.Rat).Add(x, y))
			difference, code := impl.SubtractDyadics(c, d)
			wantDyadic(t, "SubtractDyadics"+names, difference, code, new(big.Rat).Sub(x, y))
			product, code := impl.MultiplyDyadics(c, d)
			wantDyadic(t, "MultiplyDyadics"+names, product, code, new(big.Rat).Mul(x, y))
			sign, code := impl.CompareDyadics(c, d)
			wantInteger(t, "CompareDyadics"+names, sign, code, int64(x.Cmp(y)), impl.ErrNone)
		}
	}
}

func TestSumsOfDyadicsAreUndoneByDifferences(t *testing.T) {
	all := someDyadics()
	for _, c := range all {
		for _, d := range all {
			sum, code := impl.AddDyadics(c, d)
			if code != impl.ErrNone {
				continue
			}
			back, code := impl.SubtractDyadics(sum, d)
			if code != impl.ErrNone || !sameDyadics(back, c) {
				t.Errorf("SubtractDyadics of the sum of %v and %v = %v, %d", c, d, back, code)
			}
		}
	}
}

// dyadic returns an exact number, which has to be one.
func dyadic(t *testing.T, n *big.Int, e int64) impl.Dyadic {
	t.Helper()
	d := dyadicOf(scaled(n, e))
	if !impl.IsDyadic(d) {
		t.Fatalf("%v times 2^%d is no exact number", n, e)
	}
	return d
}

func TestResultsThatAreTooLarge(t *testing.T) {
	one, minus := big.NewInt(1), big.NewInt(-1)
	wide := power(2400, -1)
	for _, c := range []struct {
		name    string
		call    func(c, d impl.Dyadic) (impl.Dyadic, int64)
		c, d    impl.Dyadic
		allowed bool
	}{
		{"AddDyadics", impl.AddDyadics, dyadic(t, one, 0), dyadic(t, one, -2399), true},
		{"AddDyadics", impl.AddDyadics, dyadic(t, one, 0), dyadic(t, one, -2400), false},
		{"AddDyadics", impl.AddDyadics, dyadic(t, one, 3000), dyadic(t, one, -3000), false},
		{"AddDyadics", impl.AddDyadics, dyadic(t, one, 3000), dyadic(t, one, 3000), false},
		{"AddDyadics", impl.AddDyadics, dyadic(t, one, 2999), dyadic(t, one, 2999), true},
		{"AddDyadics", impl.AddDyadics, dyadic(t, wide, 2998), dyadic(t, one, 2998), false},
		{"AddDyadics", impl.AddDyadics, dyadic(t, wide, 600), dyadic(t, one, 600), true},
		{"AddDyadics", impl.AddDyadics, dyadic(t, wide, 601), dyadic(t, one, 601), false},
		{"AddDyadics", impl.AddDyadics, dyadic(t, wide, -3000), dyadic(t, one, -600), false},
		{"AddDyadics", impl.AddDyadics, dyadic(t, wide, -3000), dyadic(t, one, -3000), true},
		{"SubtractDyadics", impl.SubtractDyadics, dyadic(t, one, 0), dyadic(t, one, -2400), true},
		{"SubtractDyadics", impl.SubtractDyadics, dyadic(t, one, 0), dyadic(t, one, -2401), false},
		{"SubtractDyadics", impl.SubtractDyadics, dyadic(t, minus, 3000), dyadic(t, one, 3000), false},
		{"SubtractDyadics", impl.SubtractDyadics, dyadic(t, one, 3000), dyadic(t, one, 3000), true},
		{"SubtractDyadics", impl.SubtractDyadics, dyadic(t, one, 3000), dyadic(t, one, 600), true},
		{"SubtractDyadics", impl.SubtractDyadics, dyadic(t, one, 3000), dyadic(t, one, 599), false},
		{"MultiplyDyadics", impl.MultiplyDyadics, dyadic(t, one, 1500), dyadic(t, minus, 1500), true},
		{"MultiplyDyadics", impl.MultiplyDyadics, dyadic(t, one, 1500), dyadic(t, one, 1501), false},
		{"MultiplyDyadics", impl.MultiplyDyadics, dyadic(t, one, -1500), dyadic(t, one, -1500), true},
		{"MultiplyDyadics", impl.MultiplyDyadics, dyadic(t, one, -1500), dyadic(t, minus, -1501), false},
		{"MultiplyDyadics", impl.MultiplyDyadics, dyadic(t, one, 3000), dyadic(t, one, -3000), true},
		{"MultiplyDyadics", impl.MultiplyDyadics, dyadic(t, power(1200, -1), 5), dyadic(t, power(1200, -1), -5), true},
		{"MultiplyDyadics", impl.MultiplyDyadics, dyadic(t, power(1200, 1), 5), dyadic(t, power(1200, 1), -5), false},
		{"MultiplyDyadics", impl.MultiplyDyadics, dyadic(t, wide, 3000), impl.Dyadic{}, true},
	} {
		call := fmt.Sprintf("%s(%v, %v)", c.name, c.c, c.d)
		d, code := c.call(c.c, c.d)
		if !c.allowed {
			wantNoDyadic(t, call, d, code, impl.ErrLimit)
		} else if code != impl.ErrNone || !impl.IsDyadic(d) {
			t.Errorf("%s = %v, %d", call, d, code)
		}
	}
}

func TestCompareDyadicsThatAreClose(t *testing.T) {
	for _, d := range roundings() {
		for _, e := range []int64{d.Exponent, d.Exponent - 1, -3000} {
			more, code := impl.AddDyadics(d, dyadic(t, big.NewInt(1), max(e, -3000)))
			if code != impl.ErrNone {
				continue
			}
			for _, c := range []struct {
				c, d impl.Dyadic
				want int64
			}{{d, more, -1}, {more, d, 1}, {d, d, 0}, {more, more, 0}} {
				sign, code := impl.CompareDyadics(c.c, c.d)
				wantInteger(t, fmt.Sprintf("CompareDyadics(%v, %v)", c.c, c.d), sign, code, c.want, impl.ErrNone)
			}
		}
	}
}

func TestScaleDyadic(t *testing.T) {
	for _, d := range someDyadics() {
		for _, k := range []int64{0, 1, -1, 24, -24, 500, -500, 2999, -2999, 3000, -3000, 3001, -3001, 5999, -5999, 6000, -6000} {
			call := fmt.Sprintf("ScaleDyadic(%v, %d)", d, k)
			got, code := impl.ScaleDyadic(d, k)
			wantDyadic(t, call, got, code, new(big.Rat).Mul(ratOf(d), step(k)))
			if code != impl.ErrNone {
				continue
			}
			back, code := impl.ScaleDyadic(got, -k)
			if code != impl.ErrNone || !sameDyadics(back, d) {
				t.Errorf("%s is not undone: %v, %d", call, back, code)
			}
		}
		for _, k := range append([]int64{6001, -6001}, extremes...) {
			got, code := impl.ScaleDyadic(d, k)
			wantNoDyadic(t, fmt.Sprintf("ScaleDyadic(%v, %d)", d, k), got, code, impl.ErrRange)
		}
	}
}

func TestScaleDyadicFromEndToEnd(t *testing.T) {
	low, high := dyadic(t, big.NewInt(-5), -3000), dyadic(t, big.NewInt(-5), 3000)
	d, code := impl.ScaleDyadic(low, 6000)
	wantDyadic(t, "ScaleDyadic from the least exponent to the greatest", d, code, ratOf(high))
	d, code = impl.ScaleDyadic(high, -6000)
	wantDyadic(t, "ScaleDyadic from the greatest exponent to the least", d, code, ratOf(low))
	d, code = impl.ScaleDyadic(high, 1)
	wantNoDyadic(t, "ScaleDyadic beyond the greatest exponent", d, code, impl.ErrLimit)
	d, code = impl.ScaleDyadic(low, -1)
	wantNoDyadic(t, "ScaleDyadic beyond the least exponent", d, code, impl.ErrLimit)
}
