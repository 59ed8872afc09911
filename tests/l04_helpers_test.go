package tests

import (
	"fmt"
	"math"
	"math/big"
	"testing"

	"loop.example/g01172/impl"
)

// Flags that come together, and the least float greater than 0, under short names for tables.
const (
	lost  = impl.FlagInexact
	tiny  = impl.FlagInexact + impl.FlagTiny
	over  = impl.FlagInexact + impl.FlagOverflow
	least = float32(leastSubnormal)
)

// operation is one of two floats in all modes, with its exact result and its sign if that is 0,
// and the operation of the language.
type operation struct {
	name     string
	call     func(x, y float32, mode int64) (float32, int64, int64)
	exact    func(x, y *big.Rat) *big.Rat
	zero     func(x, y float32, mode int64) float32
	language func(x, y float32) float32
}

// operations are in the order of their kinds for SpreadOf.
var operations = []operation{
	{"AddIn", impl.AddIn, ratOperation((*big.Rat).Add), zeroSum, func(x, y float32) float32 { return x + y }},
	{"SubtractIn", impl.SubtractIn, ratOperation((*big.Rat).Sub), zeroDifference, func(x, y float32) float32 { return x - y }},
	{"MultiplyIn", impl.MultiplyIn, ratOperation((*big.Rat).Mul), zeroProduct, func(x, y float32) float32 { return x * y }},
	{"DivideIn", impl.DivideIn, ratOperation((*big.Rat).Quo), zeroProduct, func(x, y float32) float32 { return x / y }},
}

const (
	sumKind = iota
	differenceKind
	productKind
	quotientKind
)

func ratOperation(method func(z, x, y *big.Rat) *big.Rat) func(x, y *big.Rat) *big.Rat {
	return func(x, y *big.Rat) *big.Rat { return method(new(big.Rat), x, y) }
}

func isMinus(x float32) bool {
	return math.Signbit(float64(x))
}

func zeroSum(x, y float32, mode int64) float32 {
	switch {
	case x == 0 && y == 0 && isMinus(x) && isMinus(y):
		return minusZero
	case x == 0 && y == 0 && !isMinus(x) && !isMinus(y):
		return 0
	case mode == impl.Down:
		return minusZero
	}
	return 0
}

func zeroDifference(x, y float32, mode int64) float32 {
	return zeroSum(x, turned(y), mode)
}

// turned changes the sign bit itself, that of zeros, too.
func turned(x float32) float32 {
	return math.Float32frombits(math.Float32bits(x) ^ 1<<31)
}

func zeroProduct(x, y float32, mode int64) float32 {
	if isMinus(x) != isMinus(y) {
		return minusZero
	}
	return 0
}

// floatRat returns the value of a finite float.
func floatRat(x float32) *big.Rat {
	return new(big.Rat).SetFloat64(float64(x))
}

// someFloats returns finite floats: those of the edge cases and some in disorder.
func someFloats() []float32 {
	var all []float32
	for _, x := range append(ascendingFloats(), disordered(4, 20)...) {
		if !math.IsInf(float64(x), 0) {
			all = append(all, x)
		}
	}
	return all
}

// disordered returns finite floats with any bits.
func disordered(seed uint64, n int) []float32 {
	next := noise(seed)
	var all []float32
	for len(all) < n {
		x := math.Float32frombits(uint32(next() >> 16))
		if x-x == 0 {
			all = append(all, x)
		}
	}
	return all
}

// pairs calls visit with all pairs of someFloats, and with floats that are not far apart in size.
func pairs(visit func(x, y float32)) {
	all := someFloats()
	for _, x := range all {
		for _, y := range all {
			visit(x, y)
		}
	}
	next := noise(5)
	for _, x := range disordered(6, 1000) {
		exponent := int(next()%61) - 30
		y := float32(math.Ldexp(float64(x), exponent))
		y = math.Float32frombits(math.Float32bits(y) ^ uint32(next()>>16)&(1<<31|1<<23-1))
		if y-y == 0 {
			visit(x, y)
		}
	}
}

// wantResult checks a float, with the sign of zero, the flags and a code.
func wantResult(t *testing.T, call string, x float32, flags, code int64, want float32, wantFlags, wantCode int64) {
	t.Helper()
	if !same(x, want) || flags != wantFlags || code != wantCode {
		t.Errorf("%s = %v (bits %#x), %d, %d, want %v (bits %#x), %d, %d",
			call, x, math.Float32bits(x), flags, code, want, math.Float32bits(want), wantFlags, wantCode)
	}
}

// wantEnclosed checks what promise 4 tells of the results in all modes: those in Down and Up are
// neighbours or equal, and the others are one of both.
func wantEnclosed(t *testing.T, call string, results [5]float32) {
	t.Helper()
	low, high := results[impl.Down], results[impl.Up]
	if apart := placeOf(t, high) - placeOf(t, low); low > high || apart < 0 || apart > 1 {
		t.Errorf("%s is %v and %v in the modes Down and Up", call, low, high)
	}
	for mode, x := range results {
		if x != low && x != high {
			t.Errorf("%s is %v in the mode %d, and %v and %v in the modes Down and Up", call, x, mode, low, high)
		}
	}
}

// example has the results in the five modes, in order, and their flags.
type example struct {
	x, y, z float32
	want    [5]float32
	flags   [5]int64
}

// alike returns five times the same.
func alike[T any](x T) [5]T {
	return [5]T{x, x, x, x, x}
}

// openZero is a 0 whose sign the mode tells, and pastGreatest a number that overflows in each mode.
var (
	openZero     = [5]float32{0, minusZero, 0, 0, 0}
	pastGreatest = [5]float32{infinite, greatest, infinite, greatest, infinite}
)

// mirrored returns examples and, behind them, those with floats turned so that the results have
// the opposite signs.
func mirrored(examples []example, turn func(e example) example) []example {
	both := examples
	for _, e := range examples {
		m := turn(e)
		for mode, from := range []int{impl.Nearest, impl.Up, impl.Down, impl.ToZero, impl.Outward} {
			m.want[mode], m.flags[mode] = turned(e.want[from]), e.flags[from]
		}
		both = append(both, m)
	}
	return both
}

func turnedSum(e example) example {
	return example{x: turned(e.x), y: turned(e.y)}
}

func turnedProduct(e example) example {
	return example{x: turned(e.x), y: e.y, z: turned(e.z)}
}

// wantExamples checks results that are written out.
func wantExamples(t *testing.T, op operation, examples []example) {
	t.Helper()
	for _, e := range examples {
		for _, mode := range modes {
			z, flags, code := op.call(e.x, e.y, mode)
			wantResult(t, fmt.Sprintf("%s(%v, %v, %d)", op.name, e.x, e.y, mode), z, flags, code, e.want[mode], e.flags[mode], impl.ErrNone)
		}
	}
}
