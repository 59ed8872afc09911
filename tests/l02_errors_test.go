package tests

import (
	"fmt"
	"math/big"
	"slices"
	"testing"

	"loop.example/g01172/impl"
)

// binary are the functions of two whole numbers; those that return something else return its
// number as a second whole one.
var binary = []struct {
	name string
	call func(a, b impl.Whole) (impl.Whole, impl.Whole, int64)
}{
	{"AddWholes", func(a, b impl.Whole) (impl.Whole, impl.Whole, int64) {
		c, code := impl.AddWholes(a, b)
		return c, impl.Whole{}, code
	}},
	{"SubtractWholes", func(a, b impl.Whole) (impl.Whole, impl.Whole, int64) {
		c, code := impl.SubtractWholes(a, b)
		return c, impl.Whole{}, code
	}},
	{"MultiplyWholes", func(a, b impl.Whole) (impl.Whole, impl.Whole, int64) {
		c, code := impl.MultiplyWholes(a, b)
		return c, impl.Whole{}, code
	}},
	{"DivideWholes", impl.DivideWholes},
	{"CompareWholes", func(a, b impl.Whole) (impl.Whole, impl.Whole, int64) {
		sign, code := impl.CompareWholes(a, b)
		return impl.Whole{}, impl.Whole{Sign: sign}, code
	}},
}

// unary are the functions of one whole number.
var unary = []struct {
	name string
	call func(a impl.Whole) (impl.Whole, int64)
}{
	{"IntegerOf", func(a impl.Whole) (impl.Whole, int64) {
		n, code := impl.IntegerOf(a)
		return impl.Whole{Sign: n}, code
	}},
	{"ShiftWhole by 1", func(a impl.Whole) (impl.Whole, int64) { return impl.ShiftWhole(a, 1) }},
	{"ShiftWhole by 0", func(a impl.Whole) (impl.Whole, int64) { return impl.ShiftWhole(a, 0) }},
	{"ShiftWhole by -1", func(a impl.Whole) (impl.Whole, int64) { return impl.ShiftWhole(a, -1) }},
	{"ShiftWhole by 5001", func(a impl.Whole) (impl.Whole, int64) { return impl.ShiftWhole(a, 5001) }},
	{"LengthOfWhole", func(a impl.Whole) (impl.Whole, int64) {
		n, code := impl.LengthOfWhole(a)
		return impl.Whole{Sign: n}, code
	}},
	{"RootOfWhole", impl.RootOfWhole},
	{"WholeText", func(a impl.Whole) (impl.Whole, int64) {
		text, code := impl.WholeText(a)
		return impl.Whole{Sign: int64(len(text))}, code
	}},
}

// ErrInvalid goes ahead of ErrRange and of ErrState.
func TestWholesThatAreNone(t *testing.T) {
	others := []impl.Whole{{}, {Sign: -1, Limbs: []int64{3}}, wholeOfBig(power(2400, -1))}
	for _, bad := range badWholes() {
		for _, f := range unary {
			a, code := f.call(bad)
			wantNoWhole(t, fmt.Sprintf("%s(%v)", f.name, bad), a, code, impl.ErrInvalid)
		}
		for _, f := range binary {
			for _, other := range append(others, bad) {
				for _, pair := range [][2]impl.Whole{{bad, other}, {other, bad}} {
					a, b, code := f.call(pair[0], pair[1])
					call := fmt.Sprintf("%s(%v, %v)", f.name, pair[0], pair[1])
					wantNoWhole(t, call, a, code, impl.ErrInvalid)
					wantNoWhole(t, call, b, code, impl.ErrInvalid)
				}
			}
		}
	}
}

func TestErrorsOfState(t *testing.T) {
	for _, n := range someNumbers() {
		quotient, remainder, code := impl.DivideWholes(wholeOfBig(n), impl.Whole{})
		wantNoWhole(t, fmt.Sprintf("DivideWholes(%v, 0)", n), quotient, code, impl.ErrState)
		wantNoWhole(t, fmt.Sprintf("DivideWholes(%v, 0)", n), remainder, code, impl.ErrState)
		if n.Sign() < 0 {
			root, code := impl.RootOfWhole(wholeOfBig(n))
			wantNoWhole(t, fmt.Sprintf("RootOfWhole(%v)", n), root, code, impl.ErrState)
		}
	}
}

// spacious returns a whole number with room behind its limbs, and the limbs with that room.
func spacious(n *big.Int) (impl.Whole, []int64) {
	a := wholeOfBig(n)
	room := append(slices.Clone(a.Limbs), 7, 8, 9)
	a.Limbs = room[:len(a.Limbs)]
	return a, room
}

// spoil writes into all memory of a result, and behind it.
func spoil(a impl.Whole) {
	for i := range a.Limbs {
		a.Limbs[i] = -1
	}
	_ = append(a.Limbs, -2)
}

func TestWholesAreNotChangedAndShareNoMemory(t *testing.T) {
	numbers := []*big.Int{new(big.Int), big.NewInt(1), big.NewInt(-3), power(24, 0), power(100, 5), new(big.Int).Neg(power(200, -1)), power(1200, 0), power(2400, -1)}
	for _, m := range numbers {
		for _, f := range unary {
			a, room := spacious(m)
			before := slices.Clone(room)
			c, _ := f.call(a)
			spoil(c)
			if !slices.Equal(room, before) {
				t.Errorf("%s(%v) changes or shares its argument", f.name, m)
			}
		}
		for _, n := range numbers {
			for _, f := range binary {
				a, roomA := spacious(m)
				b, roomB := spacious(n)
				beforeA, beforeB := slices.Clone(roomA), slices.Clone(roomB)
				c, d, _ := f.call(a, b)
				kept := slices.Clone(d.Limbs)
				spoil(c)
				if !slices.Equal(d.Limbs, kept) {
					t.Errorf("the results of %s(%v, %v) share memory", f.name, m, n)
				}
				spoil(d)
				if !slices.Equal(roomA, beforeA) || !slices.Equal(roomB, beforeB) {
					t.Errorf("%s(%v, %v) changes or shares its arguments", f.name, m, n)
				}
			}
		}
	}
}
