package tests

import (
	"fmt"
	"math"
	"math/big"
	"strings"
	"testing"

	"loop.example/g01172/impl"
)

func TestConstantOfChapter2(t *testing.T) {
	if impl.MaxLimbs != 100 {
		t.Errorf("MaxLimbs = %d", impl.MaxLimbs)
	}
}

func TestIsWhole(t *testing.T) {
	for _, a := range []impl.Whole{
		{}, {Limbs: []int64{}}, {Sign: 1, Limbs: []int64{1}}, {Sign: -1, Limbs: []int64{greatestLimb}},
		{Sign: 1, Limbs: []int64{0, 1}}, {Sign: -1, Limbs: []int64{0, 0, greatestLimb}},
		wholeOfBig(power(2399, 0)), wholeOfBig(power(2400, -1)),
	} {
		if !impl.IsWhole(a) {
			t.Errorf("IsWhole(%v) is false", a)
		}
	}
	for _, n := range someNumbers() {
		if a := wholeOfBig(n); !impl.IsWhole(a) {
			t.Errorf("IsWhole(%v) is false", a)
		}
	}
	for _, a := range badWholes() {
		if impl.IsWhole(a) {
			t.Errorf("IsWhole(%v) is true", a)
		}
	}
}

func TestIntegersComeBackFromWholes(t *testing.T) {
	for _, n := range []int64{
		0, 1, -1, 2, 1<<24 - 1, 1 << 24, 1<<24 + 1, -1 << 24, 1<<48 - 1, 1 << 48, -1<<48 - 1, 1 << 62,
		math.MaxInt64, math.MaxInt64 - 1, math.MinInt64, math.MinInt64 + 1, 123456789012345678,
	} {
		a, code := impl.WholeOf(n)
		wantWhole(t, fmt.Sprintf("WholeOf(%d)", n), a, code, big.NewInt(n))
		back, code := impl.IntegerOf(a)
		wantInteger(t, fmt.Sprintf("IntegerOf(%v)", a), back, code, n, impl.ErrNone)
	}
}

func TestIntegerOfOutsideItsRange(t *testing.T) {
	for _, n := range someNumbers() {
		want, wantCode := int64(0), int64(impl.ErrLimit)
		if n.IsInt64() {
			want, wantCode = n.Int64(), impl.ErrNone
		}
		got, code := impl.IntegerOf(wholeOfBig(n))
		wantInteger(t, fmt.Sprintf("IntegerOf(%v)", n), got, code, want, wantCode)
	}
	above := new(big.Int).Add(big.NewInt(math.MaxInt64), big.NewInt(1))
	below := new(big.Int).Sub(big.NewInt(math.MinInt64), big.NewInt(1))
	for _, n := range []*big.Int{above, below, power(64, -1), power(64, 0), power(72, 0), new(big.Int).Neg(power(64, 0))} {
		got, code := impl.IntegerOf(wholeOfBig(n))
		wantInteger(t, fmt.Sprintf("IntegerOf(%v)", n), got, code, 0, impl.ErrLimit)
	}
}

func TestLengthOfWhole(t *testing.T) {
	for _, n := range someNumbers() {
		length, code := impl.LengthOfWhole(wholeOfBig(n))
		wantInteger(t, fmt.Sprintf("LengthOfWhole(%v)", n), length, code, int64(n.BitLen()), impl.ErrNone)
	}
}

func TestCompareWholes(t *testing.T) {
	all := someNumbers()
	for _, m := range all {
		for _, n := range all {
			sign, code := impl.CompareWholes(wholeOfBig(m), wholeOfBig(n))
			if sign != int64(m.Cmp(n)) || code != impl.ErrNone {
				t.Fatalf("CompareWholes(%v, %v) = %d, %d", m, n, sign, code)
			}
		}
	}
}

// Numbers that differ in one limb only are told apart by it.
func TestCompareWholesLimbByLimb(t *testing.T) {
	for i := range 100 {
		limbs := make([]int64, 100)
		for j := range limbs {
			limbs[j] = 7
		}
		a := impl.Whole{Sign: 1, Limbs: limbs}
		b := wholeOfBig(bigOf(a))
		b.Limbs[i]++
		for _, c := range []struct {
			a, b impl.Whole
			want int64
		}{{a, b, -1}, {b, a, 1}, {a, a, 0}, {b, b, 0}} {
			sign, code := impl.CompareWholes(c.a, c.b)
			wantInteger(t, fmt.Sprintf("CompareWholes of limbs that differ at %d", i), sign, code, c.want, impl.ErrNone)
		}
	}
}

func TestWholesComeBackFromTheirTexts(t *testing.T) {
	all := append(someNumbers(), big.NewInt(10), big.NewInt(-10), big.NewInt(999999999))
	ten := big.NewInt(10)
	for _, k := range []int64{8, 9, 10, 17, 18, 19, 100, 721, 722} {
		n := new(big.Int).Exp(ten, big.NewInt(k), nil)
		all = append(all, n, new(big.Int).Neg(n), new(big.Int).Add(n, big.NewInt(-1)), new(big.Int).Add(n, big.NewInt(1)))
	}
	for _, n := range all {
		text, code := impl.WholeText(wholeOfBig(n))
		if text != n.String() || code != impl.ErrNone {
			t.Errorf("WholeText of %v = %q, %d", n, text, code)
		}
		a, code := impl.ParseWhole(n.String())
		wantWhole(t, fmt.Sprintf("ParseWhole(%q)", n), a, code, n)
	}
}

func TestParseWholeRefusesOtherTexts(t *testing.T) {
	for _, text := range []string{
		"", "-", "--1", "-0", "00", "01", "-01", "000", "-00", "+1", "+", "+0", " ", " 1", "1 ", "1 2", "1a", "a1", "a", "1-",
		"1-2", "- 1", "1.0", "1e3", "0x10", "1_000", "1\n", "\x001", "1\x00", "/", ":", "1/", "1:", "\xff",
		"\xd9\xa1", "1\xe2\x81\xb0", strings.Repeat("9", 2000) + "x", "0" + strings.Repeat("9", 2000), "-0" + strings.Repeat("1", 800),
	} {
		a, code := impl.ParseWhole(text)
		wantNoWhole(t, fmt.Sprintf("ParseWhole(%q)", text), a, code, impl.ErrSyntax)
	}
}

func TestParseWholeAtItsLimit(t *testing.T) {
	for _, n := range []*big.Int{power(2400, -1), power(2400, 0), power(2400, 1), power(2401, 0)} {
		a, code := impl.ParseWhole(n.String())
		wantWhole(t, fmt.Sprintf("ParseWhole(%q)", n), a, code, n)
		n = new(big.Int).Neg(n)
		a, code = impl.ParseWhole(n.String())
		wantWhole(t, fmt.Sprintf("ParseWhole(%q)", n), a, code, n)
	}
	for _, digits := range []int{723, 724, 725, 100000} {
		text := strings.Repeat("9", digits)
		a, code := impl.ParseWhole(text)
		wantNoWhole(t, fmt.Sprintf("ParseWhole of %d digits", digits), a, code, impl.ErrLimit)
		a, code = impl.ParseWhole("-" + text)
		wantNoWhole(t, fmt.Sprintf("ParseWhole of - and %d digits", digits), a, code, impl.ErrLimit)
	}
}
