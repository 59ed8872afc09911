package tests

import (
	"math"
	"slices"
	"testing"

	"loop.example/g01172/impl"
)

// ascending returns floats of the domain of a function in ascending order, some of them next to
// each other.
func (f realFunction) ascending() []float32 {
	all := f.around(append(f.arguments(300, 100), scattered(200, 2)...))
	for _, start := range []float32{least, 0x1p-30, 0.5, 1, 88.722, 1000, -least, -0x1p-25, -1, -87.34, -103.9, 0x1p100} {
		x := start
		for range 50 {
			if f.has(x) {
				all = append(all, x)
			}
			x = math.Nextafter32(x, infinite)
		}
	}
	slices.Sort(all)
	return slices.Compact(all)
}

func TestFunctionsIncrease(t *testing.T) {
	for _, f := range increasingFunctions {
		all := f.ascending()
		before := f.values(t, all[0])
		for k, x := range all[1:] {
			values := f.values(t, x)
			for _, mode := range modes {
				if values[mode] < before[mode] {
					t.Errorf("in the mode %d, %s of %x is %x, and of %x only %x", mode, f.name, all[k], before[mode], x, values[mode])
				}
			}
			before = values
		}
	}
}

// Values of opposite arguments are opposite, also zeros, but Down and Up are exchanged.
func TestOddFunctions(t *testing.T) {
	for _, f := range oddFunctions {
		for _, x := range f.around(f.arguments(400, 1000)) {
			values, others := f.values(t, x), f.values(t, turned(x))
			for mode, opposite := range []int{impl.Nearest, impl.Up, impl.Down, impl.ToZero, impl.Outward} {
				if !same(others[mode], turned(values[opposite])) {
					t.Errorf("%s of %x and its opposite are %x and %x, in the modes %d and %d", f.name, x, values[opposite], others[mode], opposite, mode)
				}
			}
		}
	}
}

// A power of e that is rounded is off by less than a last place, and so is its logarithm.
func TestLogarithmsOfExponentials(t *testing.T) {
	for _, x := range append(scattered(2000, 88), scattered(1000, 1)...) {
		for _, mode := range modes {
			power, code := impl.ExpIn(x, mode)
			if code != impl.ErrNone || power <= 0 || power > greatest {
				t.Fatalf("ExpIn(%x, %d) = %v, %d", x, mode, power, code)
			}
			log, code := impl.LogIn(power, mode)
			last, _ := impl.LastPlace(power)
			lastOfLog, _ := impl.LastPlace(log)
			limit := 1.001*float64(last)/float64(power) + float64(lastOfLog)
			if code != impl.ErrNone || math.Abs(float64(log)-float64(x)) > limit {
				t.Errorf("LogIn(%x, %d) = %x, %d, for ExpIn(%x, %d)", power, mode, log, code, x, mode)
			}
		}
	}
}

// Sines and arcus tangents are nearer to 0 than their arguments, powers of e are above their tangent
// at 0, and logarithms are below theirs at 1.
func TestFunctionsAndTheirTangents(t *testing.T) {
	for _, x := range slices.Concat(scattered(500, 2), scattered(500, 0.001), []float32{least, -least, leastNormal, 0x1p-25}) {
		for _, f := range oddFunctions {
			y, code := f.call(x, impl.Outward)
			if code != impl.ErrNone || math.Abs(float64(y)) > math.Abs(float64(x)) || isMinus(x) != isMinus(y) {
				t.Errorf("%sIn(%x) = %x, %d", f.name, x, y, code)
			}
		}
		if y, code := impl.ExpIn(x, impl.Up); code != impl.ErrNone || float64(y) < 1+float64(x) {
			t.Errorf("ExpIn(%x) = %x, %d", x, y, code)
		}
		if y, code := impl.LogIn(1+x, impl.Down); x > -1 && (code != impl.ErrNone || float64(y) > float64(1+x)-1) {
			t.Errorf("LogIn(%x) = %x, %d", 1+x, y, code)
		}
	}
}
