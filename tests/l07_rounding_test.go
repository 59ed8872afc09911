package tests

import (
	"fmt"
	"math"
	"math/big"
	"slices"
	"testing"

	"loop.example/g01172/impl"
)

// wantRightlyRounded checks a function at x against its exact value in all modes, and that the results
// Down and Up are neighbours, or equal where the value is rational.
func wantRightlyRounded(t *testing.T, f realFunction, x float32) {
	t.Helper()
	values := f.values(t, x)
	for mode, want := range f.exactValues(t, x) {
		wantFloat(t, fmt.Sprintf("%sIn(%x, %d)", f.name, x, mode), values[mode], impl.ErrNone, want, impl.ErrNone)
	}
	wantEnclosed(t, fmt.Sprintf("%sIn(%x)", f.name, x), values)
	if apart := placeOf(t, values[impl.Up]) - placeOf(t, values[impl.Down]); (apart == 0) != (x == f.rational) {
		t.Errorf("%sIn(%x) is %x and %x in the modes Down and Up", f.name, x, values[impl.Down], values[impl.Up])
	}
}

// The numbers to which results are compared start with these digits.
func TestNumbersOfComparisons(t *testing.T) {
	e, exponent := powerOfE(power(ordinaryBits, 0), ordinaryBits)
	for _, c := range []struct {
		got  *big.Rat
		want string
	}{
		{scaled(circleNumber(ordinaryBits), -ordinaryBits), "3.141592653589793238462643383279502884197169399375105820974945"},
		{scaled(logOfTwo(ordinaryBits), -ordinaryBits), "0.693147180559945309417232121458176568075500134360255254120680"},
		{scaled(e, exponent-ordinaryBits), "2.718281828459045235360287471352662497757247093699959574966968"},
		{exactLog(t, 10).low, "2.302585092994045684017991454684364207601101488628772976033328"},
		{exactAtan(t, 1).low, "0.785398163397448309615660845819875721049292349843776455243736"},
		{exactAtan(t, 2).low, "1.107148717794090503017065460178537040070047645401432646676539"},
		{exactSin(t, 1).low, "0.841470984807896506652502321630298999622563060798371065672752"},
	} {
		if got := c.got.FloatString(60); got != c.want && got[:60] != c.want[:60] {
			t.Errorf("%s is compared with %s", c.want, got)
		}
	}
}

func TestFunctionsAgainstExactValues(t *testing.T) {
	for _, c := range []struct {
		f     realFunction
		limit float32
	}{
		{exponential, 110},
		{exponential, 1},
		{logarithm, 10},
		{arcusTangent, 10},
		{sine, 10},
		{sine, maxAngle},
	} {
		for _, x := range c.f.arguments(1500, c.limit) {
			wantRightlyRounded(t, c.f, x)
		}
	}
}

// hardArguments were found by a search in all floats but those next to 0, where values are near to
// floats anyway: of all arguments, their values are among the nearest to a float, or to the middle
// between two floats.
var hardArguments = []struct {
	f       realFunction
	floats  []float32
	middles []float32
}{
	{
		f: exponential,
		floats: []float32{
			0x1.fffffep-24, 0x1.fffffcp-23, 0x1.fffff8p-22, 0x1.fffffp-21, 0x1.7fffeep-20,
			-0x1.000002p-22, -0x1.000004p-21, -0x1.000008p-20, -0x1.800012p-20, -0x1.659ec8p-9,
		},
		middles: []float32{
			0x1.fdff02p-17, 0x1.8d7cb6p-12, 0x1.cd3982p-14, 0x1.62b666p1, 0x1.112856p6,
			-0x1.d2259ap3, -0x1.e1dbe2p-8, -0x1.65cf3p6, -0x1.c1c4b8p-10,
		},
	},
	{
		f:       logarithm,
		floats:  []float32{0x1.108a5ap-66, 0x1.2fe614p117, 0x1.1ff606p33, 0x1.007e58p27, 0x1.ecf3fep-73, 0x1.ad3d1p58},
		middles: []float32{0x1.b121a6p76, 0x1.bacb4ap25, 0x1.c09d7cp27, 0x1.2f1fd6p3, 0x1.22d57p-65, 0x1.5190cp78, 0x1.827a74p-7},
	},
	{
		f:       arcusTangent,
		floats:  []float32{0x1.ddf9f6p0, 0x1.98c252p12, 0x1.71b3f4p16, 0x1.fc5d82p0, 0x1.b3fc7cp14, 0x1.8daab4p-5},
		middles: []float32{0x1.1ad646p-4, 0x1.ac6ff4p-10, 0x1.f83792p-9, 0x1.e00a3p25, 0x1.6afe3ap1, 0x1.e00a2ep25},
	},
	{
		f:       sine,
		floats:  []float32{0x1.f9cbe2p7, 0x1.2d97c8p2, 0x1.4f0654p0, 0x1.9a48dep15, 0x1.75b8a2p-1, 0x1.76e92p7, 0x1.2e32e6p1},
		middles: []float32{0x1.33333p13, 0x1.e35bc6p7, 0x1.e7061ep-2, 0x1.515766p12, 0x1.9eab2ep-4, 0x1.cf9736p19, 0x1.a88a5p6},
	},
}

func TestValuesNextToFloatsAndToMiddles(t *testing.T) {
	for _, c := range hardArguments {
		for _, x := range c.floats {
			wantRightlyRounded(t, c.f, x)
			wantNearby(t, c.f, x, 0)
		}
		for _, x := range c.middles {
			wantRightlyRounded(t, c.f, x)
			wantNearby(t, c.f, x, 0.5)
		}
	}
	for _, f := range oddFunctions {
		for _, c := range hardArguments {
			for _, x := range slices.Concat(c.floats, c.middles) {
				if f.name == c.f.name {
					wantRightlyRounded(t, f, -x)
				}
			}
		}
	}
}

// wantNearby checks that the arguments of the search are what they are told to be: the exact value
// has a part of a last place beyond a float, but for less than 2^-26 of one.
func wantNearby(t *testing.T, f realFunction, x float32, part float64) {
	t.Helper()
	value := f.exact(t, x).low
	near, _ := roundedRat(value, impl.ToZero)
	last, _ := impl.LastPlace(near)
	rest := new(big.Rat).Sub(value, floatRat(near))
	rest.Quo(rest.Abs(rest), floatRat(last))
	wide, _ := rest.Float64()
	if away := math.Abs(wide - part); min(away, 1-away) >= 0x1p-26 {
		t.Errorf("%sIn(%x) is %v last places away", f.name, x, away)
	}
}

// Angles of which the nearest floats are as near as can be come first.
func TestSinesNextToRightAngles(t *testing.T) {
	counts := []int64{322, 644, 6, 66866, 161, 3, 33433, 170015, 9}
	for n := range int64(40) {
		counts = append(counts, n+1)
	}
	for k := range 19 {
		counts = append(counts, 1<<k-1, 1<<k+1)
	}
	counts = append(counts, 667540, 667541, 667542, 667543)
	for _, x := range sine.around(rightAngles(counts)) {
		wantRightlyRounded(t, sine, x)
	}
}

func TestExponentialsAtBothEnds(t *testing.T) {
	// The logarithms of 2^128, the least float, half of it, and the least normal float.
	for _, x := range exponential.around([]float32{0x1.62e42ep6, 0x1.62e43p6, -0x1.9d1d9ep6, -0x1.9d1dap6, -0x1.9fe368p6, -0x1.9fe36ap6, -0x1.5d589ep6, -0x1.5d58ap6}) {
		wantRightlyRounded(t, exponential, x)
	}
	for _, x := range scattered(300, 8) {
		wantRightlyRounded(t, exponential, 88.7+x/100)
		wantRightlyRounded(t, exponential, -96+x)
	}
}

func TestLogarithmsNextToOne(t *testing.T) {
	below, above := float32(1), float32(1)
	for range 200 {
		below, above = math.Nextafter32(below, 0), math.Nextafter32(above, 2)
		wantRightlyRounded(t, logarithm, below)
		wantRightlyRounded(t, logarithm, above)
	}
	for _, x := range scattered(300, 0.01) {
		wantRightlyRounded(t, logarithm, 1+x)
	}
}

// Values of small arguments are so near to floats that they need the most bits.
func TestSmallArguments(t *testing.T) {
	for exponent := -149; exponent < -10; exponent++ {
		for _, part := range []float64{1, 1.25, 1.9999998} {
			x := float32(math.Ldexp(part, exponent))
			for _, f := range []realFunction{exponential, arcusTangent, sine} {
				if exponent%3 == 0 || exponent < -126 {
					wantRightlyRounded(t, f, x)
					wantRightlyRounded(t, f, -x)
				}
			}
		}
	}
}

func TestCircle(t *testing.T) {
	for k := int64(-100); k <= 100; k++ {
		n := new(big.Int).Mul(circleNumber(ordinaryBits), big.NewInt(k))
		exact := around(n, -ordinaryBits-2)
		var values [5]float32
		for _, mode := range modes {
			want := float32(0)
			if k != 0 {
				want = exact.roundedIn(t, mode)
			}
			x, code := impl.CircleIn(k, mode)
			wantFloat(t, fmt.Sprintf("CircleIn(%d, %d)", k, mode), x, code, want, impl.ErrNone)
			values[mode] = x
		}
		wantEnclosed(t, fmt.Sprintf("CircleIn(%d)", k), values)
		if apart := placeOf(t, values[impl.Up]) - placeOf(t, values[impl.Down]); (apart == 0) != (k == 0) {
			t.Errorf("CircleIn(%d) is %v and %v in the modes Down and Up", k, values[impl.Down], values[impl.Up])
		}
	}
}
