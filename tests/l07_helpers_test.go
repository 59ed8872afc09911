package tests

import (
	"fmt"
	"math"
	"math/big"
	"testing"

	"loop.example/g01172/impl"
)

// The exact values of the functions are enclosed here by integers that stand for themselves times
// 2^-p, with p at least ordinaryBits. What they are off is counted in these steps: the circle number
// and the logarithm of two by less than 2^14, what an argument has beyond multiples of them by less
// than 2^33, and the sums that are made of it by less than 2^slackBits.
const (
	ordinaryBits = 400
	slackBits    = 36

	maxAngle = impl.MaxAngle
)

// enclosure has two numbers on either side of a third one.
type enclosure struct {
	low, high *big.Rat
}

// around returns an enclosure for n steps of 2^e that are off by less than 2^slackBits.
func around(n *big.Int, e int64) enclosure {
	slack := power(slackBits, 0)
	return enclosure{low: scaled(new(big.Int).Sub(n, slack), e), high: scaled(new(big.Int).Add(n, slack), e)}
}

func (e enclosure) opposite() enclosure {
	return enclosure{low: new(big.Rat).Neg(e.high), high: new(big.Rat).Neg(e.low)}
}

// roundedIn returns the float to which all numbers of an enclosure are rounded in a mode.
func (e enclosure) roundedIn(t *testing.T, mode int64) float32 {
	t.Helper()
	low, _ := roundedRat(e.low, mode)
	high, _ := roundedRat(e.high, mode)
	if !same(low, high) {
		t.Fatalf("the enclosure from %v to %v is too wide", low, high)
	}
	return low
}

// fixedOf returns a number in steps of 2^-p, the last one rounded down.
func fixedOf(r *big.Rat, p uint) *big.Int {
	n := new(big.Int).Lsh(r.Num(), p)
	return n.Div(n, r.Denom())
}

func timesFixed(a, b *big.Int, p uint) *big.Int {
	product := new(big.Int).Mul(a, b)
	return product.Rsh(product, p)
}

func overFixed(a, b *big.Int, p uint) *big.Int {
	quotient := new(big.Int).Lsh(a, p)
	return quotient.Quo(quotient, b)
}

// arcOfInverse returns the arcus tangent of 1 / n for the sign -1, and the area tangent for 1.
func arcOfInverse(n, sign int64, p uint) *big.Int {
	factor := big.NewInt(sign * n * n)
	part := new(big.Int).Quo(power(p, 0), big.NewInt(n))
	sum := new(big.Int)
	for k := int64(1); part.Sign() != 0; k += 2 {
		sum.Add(sum, new(big.Int).Quo(part, big.NewInt(k)))
		part.Quo(part, factor)
	}
	return sum
}

// weighted is a multiple of the arc of an inverse.
type weighted struct {
	weight, n int64
}

func sumOfArcs(sign int64, p uint, parts ...weighted) *big.Int {
	sum := new(big.Int)
	for _, part := range parts {
		arc := arcOfInverse(part.n, sign, p)
		sum.Add(sum, arc.Mul(arc, big.NewInt(part.weight)))
	}
	return sum
}

var foundConstants = map[string]*big.Int{}

func constant(name string, p uint, find func() *big.Int) *big.Int {
	key := fmt.Sprint(name, p)
	if foundConstants[key] == nil {
		foundConstants[key] = find()
	}
	return foundConstants[key]
}

func circleNumber(p uint) *big.Int {
	return constant("circle", p, func() *big.Int { return sumOfArcs(-1, p, weighted{16, 5}, weighted{-4, 239}) })
}

func logOfTwo(p uint) *big.Int {
	return constant("log", p, func() *big.Int {
		return sumOfArcs(1, p, weighted{18, 26}, weighted{-2, 4801}, weighted{8, 8749})
	})
}

// beyondMultiple returns the number of steps nearest to a, and what a has beyond them.
func beyondMultiple(a, step *big.Int) (*big.Int, *big.Int) {
	k := new(big.Int).Lsh(a, 1)
	k.Add(k, step)
	k.Div(k, new(big.Int).Lsh(step, 1))
	return k, new(big.Int).Sub(a, new(big.Int).Mul(k, step))
}

// powerOfE returns n and k, for which e^x is near to n 2^(k - p), for an x in steps of 2^-p.
func powerOfE(x *big.Int, p uint) (*big.Int, int64) {
	k, rest := beyondMultiple(x, logOfTwo(p))
	term := power(p, 0)
	sum := power(p, 0)
	for n := int64(1); term.Sign() != 0; n++ {
		term = timesFixed(term, rest, p)
		term.Quo(term, big.NewInt(n))
		sum.Add(sum, term)
	}
	return sum, k.Int64()
}

func exactPower(x *big.Rat, p uint) enclosure {
	n, k := powerOfE(fixedOf(x, p), p)
	return around(n, k-int64(p))
}

// exactExp takes numbers that are beyond 2^128 or below 2^-150 for others such numbers, as both are
// rounded alike.
func exactExp(_ *testing.T, x float32) enclosure {
	return exactPower(floatRat(max(-150, min(x, 150))), ordinaryBits)
}

// exactLog improves the logarithm of the double width, and proves by powers of e that the result is
// near enough.
func exactLog(t *testing.T, x float32) enclosure {
	y := new(big.Rat).SetFloat64(math.Log(float64(x)))
	for range 2 {
		n, k := powerOfE(fixedOf(y, ordinaryBits), ordinaryBits)
		near := scaled(n, k-ordinaryBits)
		step := new(big.Rat).Sub(floatRat(x), near)
		step.Quo(step, new(big.Rat).Add(floatRat(x), near))
		y.Add(y, step.Add(step, step))
		y = scaled(fixedOf(y, ordinaryBits), -ordinaryBits)
	}
	low, high := new(big.Rat).Sub(y, step(-300)), new(big.Rat).Add(y, step(-300))
	if exactPower(low, ordinaryBits).high.Cmp(floatRat(x)) >= 0 || exactPower(high, ordinaryBits).low.Cmp(floatRat(x)) <= 0 {
		t.Fatalf("the logarithm of %v is not found", x)
	}
	return enclosure{low, high}
}

// bitsFor returns a number of bits behind the point with which the third power of x still has many.
func bitsFor(x float32) uint {
	_, exponent := math.Frexp(float64(x))
	return uint(ordinaryBits + 3*max(0, -exponent))
}

// exactAtan takes the series of Euler, for x up to 1: its terms come of x / (1 + x^2) by factors of
// x^2 / (1 + x^2) and 2 n / (2 n + 1).
func exactAtan(t *testing.T, x float32) enclosure {
	if x < 0 {
		return exactAtan(t, -x).opposite()
	}
	p := bitsFor(x)
	one, tangent := power(p, 0), fixedOf(floatRat(x), p)
	if x > 1 {
		tangent = overFixed(one, tangent, p)
	}
	square := timesFixed(tangent, tangent, p)
	all := new(big.Int).Add(one, square)
	factor := overFixed(square, all, p)
	term := overFixed(tangent, all, p)
	sum := new(big.Int).Set(term)
	for n := int64(1); term.Sign() != 0; n++ {
		term = timesFixed(term, factor, p)
		term.Mul(term, big.NewInt(2*n))
		term.Quo(term, big.NewInt(2*n+1))
		sum.Add(sum, term)
	}
	if x > 1 {
		sum.Sub(new(big.Int).Rsh(circleNumber(p), 1), sum)
	}
	return around(sum, -int64(p))
}

// exactSin takes away whole circles.
func exactSin(_ *testing.T, x float32) enclosure {
	p := bitsFor(x)
	_, angle := beyondMultiple(fixedOf(floatRat(x), p), new(big.Int).Lsh(circleNumber(p), 1))
	square := timesFixed(angle, angle, p)
	term := new(big.Int).Set(angle)
	sum := new(big.Int).Set(angle)
	for n := int64(1); term.BitLen() > 1; n++ {
		term = timesFixed(term, square, p)
		term.Quo(term, big.NewInt(-2*n*(2*n+1)))
		sum.Add(sum, term)
	}
	return around(sum, -int64(p))
}

// realFunction is a function of chapter 7, with its exact values, and the argument at which it is
// rational, with the value there.
type realFunction struct {
	name     string
	call     func(x float32, mode int64) (float32, int64)
	over     func(i impl.Interval) (impl.Interval, int64)
	exact    func(t *testing.T, x float32) enclosure
	rational float32
	value    func(x float32) float32
	has      func(x float32) bool
}

func itself(x float32) float32 {
	return x
}

var (
	exponential = realFunction{
		name: "Exp", call: impl.ExpIn, over: impl.ExpOver, exact: exactExp,
		value: func(float32) float32 { return 1 }, has: func(x float32) bool { return x-x == 0 },
	}
	logarithm = realFunction{
		name: "Log", call: impl.LogIn, over: impl.LogOver, exact: exactLog,
		rational: 1, value: func(float32) float32 { return 0 }, has: func(x float32) bool { return x-x == 0 && x > 0 },
	}
	arcusTangent = realFunction{
		name: "Atan", call: impl.AtanIn, over: impl.AtanOver, exact: exactAtan,
		value: itself, has: func(x float32) bool { return x-x == 0 },
	}
	sine = realFunction{
		name: "Sin", call: impl.SinIn, over: impl.SinOver, exact: exactSin,
		value: itself, has: func(x float32) bool { return x >= -maxAngle && x <= maxAngle },
	}

	realFunctions       = []realFunction{exponential, logarithm, arcusTangent, sine}
	increasingFunctions = []realFunction{exponential, logarithm, arcusTangent}
	oddFunctions        = []realFunction{arcusTangent, sine}
)

// exactValues returns the values that a function has to have at x in all modes, in order.
func (f realFunction) exactValues(t *testing.T, x float32) [5]float32 {
	t.Helper()
	if x == f.rational {
		return alike(f.value(x))
	}
	exact := f.exact(t, x)
	var values [5]float32
	for _, mode := range modes {
		values[mode] = exact.roundedIn(t, mode)
	}
	return values
}

// values returns the values of a function in all modes, in order, each of which has to be there.
func (f realFunction) values(t *testing.T, x float32) [5]float32 {
	t.Helper()
	var values [5]float32
	for _, mode := range modes {
		y, code := f.call(x, mode)
		if code != impl.ErrNone {
			t.Fatalf("%sIn(%x, %d): code %d", f.name, x, mode, code)
		}
		values[mode] = y
	}
	return values
}

// around adds to floats those next to them on either side, and keeps those of the domain.
func (f realFunction) around(floats []float32) []float32 {
	var all []float32
	for _, x := range floats {
		for _, y := range []float32{math.Nextafter32(x, -infinite), x, math.Nextafter32(x, infinite)} {
			if f.has(y) {
				all = append(all, y)
			}
		}
	}
	return all
}

// arguments returns floats of the domain: those of the edge cases, one of each sign and exponent,
// and n in disorder that are not beyond a limit.
func (f realFunction) arguments(n int, limit float32) []float32 {
	candidates := append(ascendingFloats(), scattered(n, limit)...)
	next := noise(71)
	everyKind(func(x float32) {
		if next()%8 == 0 {
			candidates = append(candidates, x)
		}
	})
	var all []float32
	for _, x := range candidates {
		if f.has(x) {
			all = append(all, x)
		}
	}
	return all
}

// scattered returns n floats that are spread evenly from -limit to limit.
func scattered(n int, limit float32) []float32 {
	next := noise(73)
	var all []float32
	for range n {
		part := float64(next()>>11)/0x1p52 - 1
		all = append(all, float32(part*float64(limit)))
	}
	return all
}

// rightAngles returns floats next to n right angles, on either side of them, with both signs.
func rightAngles(counts []int64) []float32 {
	right := scaled(circleNumber(ordinaryBits), -ordinaryBits-1)
	var all []float32
	for _, n := range counts {
		low, high := enclosed(new(big.Rat).Mul(right, new(big.Rat).SetInt64(n)))
		all = append(all, low, high, -low, -high)
	}
	return all
}
