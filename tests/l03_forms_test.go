package tests

import (
	"fmt"
	"math/big"
	"strings"
	"testing"

	"loop.example/g01172/impl"
)

func TestIsDyadic(t *testing.T) {
	good := append(someDyadics(), impl.Dyadic{Whole: impl.Whole{Limbs: []int64{}}})
	for _, d := range good {
		if !impl.IsDyadic(d) {
			t.Errorf("IsDyadic(%v) is false", d)
		}
	}
	for _, d := range badDyadics() {
		if impl.IsDyadic(d) {
			t.Errorf("IsDyadic(%v) is true", d)
		}
	}
}

func TestMakeDyadic(t *testing.T) {
	for _, n := range someNumbers() {
		for _, e := range []int64{0, 1, -1, 24, -24, 600, -600, 601, -601, 2999, 3000, 3001, -2999, -3000, -3001, -5376, -5399, -5400, -5401, 5999, 6000, -5999, -6000} {
			d, code := impl.MakeDyadic(wholeOfBig(n), e)
			wantDyadic(t, fmt.Sprintf("MakeDyadic(%v, %d)", n, e), d, code, scaled(n, e))
		}
		for _, e := range append([]int64{6001, -6001}, extremes...) {
			d, code := impl.MakeDyadic(wholeOfBig(n), e)
			wantNoDyadic(t, fmt.Sprintf("MakeDyadic(%v, %d)", n, e), d, code, impl.ErrRange)
		}
	}
}

// A whole number with many zeros at its end needs a small exponent to be too large or not.
func TestMakeDyadicAtTheEndsOfTheExponents(t *testing.T) {
	for _, c := range []struct {
		zeros    uint
		e        int64
		wantCode int64
	}{
		{0, 3000, impl.ErrNone}, {0, 3001, impl.ErrLimit}, {1, 2999, impl.ErrNone}, {1, 3000, impl.ErrLimit},
		{100, 2900, impl.ErrNone}, {100, 2901, impl.ErrLimit},
		{0, -3000, impl.ErrNone}, {0, -3001, impl.ErrLimit}, {1, -3001, impl.ErrNone}, {1, -3002, impl.ErrLimit},
		{2399, -5399, impl.ErrNone}, {2399, -5400, impl.ErrLimit}, {2399, 601, impl.ErrNone}, {2399, 602, impl.ErrLimit},
	} {
		for _, n := range []*big.Int{power(c.zeros, 0), new(big.Int).Neg(power(c.zeros, 0))} {
			d, code := impl.MakeDyadic(wholeOfBig(n), c.e)
			if code != c.wantCode {
				t.Errorf("MakeDyadic(%v, %d): code %d", n, c.e, code)
			}
			wantDyadic(t, fmt.Sprintf("MakeDyadic(%v, %d)", n, c.e), d, code, scaled(n, c.e))
		}
	}
}

func TestDyadicOf(t *testing.T) {
	everyKind(func(x float32) {
		d, code := impl.DyadicOf(x)
		call := fmt.Sprintf("DyadicOf(%v)", x)
		if x-x != 0 {
			wantNoDyadic(t, call, d, code, impl.ErrInvalid)
			return
		}
		wantDyadic(t, call, d, code, new(big.Rat).SetFloat64(float64(x)))
	})
	d, code := impl.DyadicOf(notANumber)
	wantNoDyadic(t, "DyadicOf(NaN)", d, code, impl.ErrInvalid)
}

func TestDyadicTextExamples(t *testing.T) {
	for _, c := range []struct {
		whole, exponent int64
		want            string
	}{
		{3, -2, "3p-2"}, {0, 0, "0p0"}, {1, 0, "1p0"}, {-1, 0, "-1p0"}, {-5, 12, "-5p12"}, {7, 3000, "7p3000"},
		{16777217, -3000, "16777217p-3000"}, {-1, 3000, "-1p3000"}, {10001, 10, "10001p10"},
	} {
		text, code := impl.DyadicText(impl.Dyadic{Whole: wholeOfBig(big.NewInt(c.whole)), Exponent: c.exponent})
		if text != c.want || code != impl.ErrNone {
			t.Errorf("DyadicText of %d times 2^%d = %q, %d", c.whole, c.exponent, text, code)
		}
	}
}

func TestExactNumbersComeBackFromTheirTexts(t *testing.T) {
	for _, d := range someDyadics() {
		text, code := impl.DyadicText(d)
		if want := fmt.Sprintf("%vp%d", bigOf(d.Whole), d.Exponent); text != want || code != impl.ErrNone {
			t.Errorf("DyadicText(%v) = %q, %d, want %q, 0", d, text, code, want)
		}
		back, code := impl.ParseDyadic(text)
		wantDyadic(t, fmt.Sprintf("ParseDyadic(%q)", text), back, code, ratOf(d))
	}
}

func TestParseDyadicRefusesOtherTexts(t *testing.T) {
	tooLarge := power(2400, 1).String()
	for _, text := range []string{
		"", "p", "1", "0", "-1", "1p", "p1", "-p1", "1p-", "-", "--1p0", "1p--1", "1p0p0", "1pp0", "1p0p", "p1p0",
		"2p0", "4p1", "-6p-2", "16777216p0", "10p0", "0p1", "0p-1", "-0p0", "00p0", "0p00", "0p-0", "1p-0", "1p00", "1p01", "1p-01", "01p0", "-01p0",
		"+1p0", "1p+1", "1p+0", "+0p0", "0p+0", "1P0", "1e0", "1p0 ", " 1p0", "1 p0", "1p 0", "1p0\n", "1p1_0", "1_1p0", "1p0x1", "0x1p0", "1p1.0", "1.5p0",
		"1p3001", "1p-3001", "-1p3001", "0p3001", "1p6000", "1p9223372036854775807", "1p9223372036854775808", "1p-9223372036854775809",
		"1p18446744073709551616", "1p" + strings.Repeat("9", 1000), tooLarge + "p0", "-" + tooLarge + "p-5", strings.Repeat("9", 5000) + "p0",
		"1p\xd9\xa1", "\xd9\xa1p1", "1p0\x00", "1,p0", "1p/", "1p:", "a p0", "1pa",
	} {
		d, code := impl.ParseDyadic(text)
		wantNoDyadic(t, fmt.Sprintf("ParseDyadic(%q)", text), d, code, impl.ErrSyntax)
	}
	for _, text := range []string{"1p3000", "1p-3000", power(2400, -1).String() + "p3000"} {
		if d, code := impl.ParseDyadic(text); code != impl.ErrNone {
			t.Errorf("ParseDyadic(%q) = %v, %d", text, d, code)
		}
	}
}
