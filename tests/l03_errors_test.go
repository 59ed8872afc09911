package tests

import (
	"fmt"
	"math/big"
	"slices"
	"testing"

	"loop.example/g01172/impl"
)

// ofOneDyadic are the functions of an exact number and an integer, which some do not need; those
// that return something else return its number as an exponent.
var ofOneDyadic = []struct {
	name string
	call func(d impl.Dyadic, k int64) (impl.Dyadic, int64)
}{
	{"RoundDyadic", func(d impl.Dyadic, k int64) (impl.Dyadic, int64) {
		x, flags, code := impl.RoundDyadic(d, k)
		return impl.Dyadic{Exponent: impl.BitsOf(x) + flags}, code
	}},
	{"EnclosingFloats", func(d impl.Dyadic, k int64) (impl.Dyadic, int64) {
		x, y, code := impl.EnclosingFloats(d)
		return impl.Dyadic{Exponent: impl.BitsOf(x) + impl.BitsOf(y)}, code
	}},
	{"ErrorOfRounding", impl.ErrorOfRounding},
	{"ScaleDyadic", impl.ScaleDyadic},
	{"FloorDyadic", impl.FloorDyadic},
	{"CeilDyadic", impl.CeilDyadic},
	{"RootAbove", impl.RootAbove},
	{"RootBelow", impl.RootBelow},
	{"DyadicText", func(d impl.Dyadic, k int64) (impl.Dyadic, int64) {
		text, code := impl.DyadicText(d)
		return impl.Dyadic{Exponent: int64(len(text))}, code
	}},
}

// ofTwoDyadics are those of two exact numbers and an integer.
var ofTwoDyadics = []struct {
	name string
	call func(c, d impl.Dyadic, k int64) (impl.Dyadic, int64)
}{
	{"AddDyadics", func(c, d impl.Dyadic, k int64) (impl.Dyadic, int64) { return impl.AddDyadics(c, d) }},
	{"SubtractDyadics", func(c, d impl.Dyadic, k int64) (impl.Dyadic, int64) { return impl.SubtractDyadics(c, d) }},
	{"MultiplyDyadics", func(c, d impl.Dyadic, k int64) (impl.Dyadic, int64) { return impl.MultiplyDyadics(c, d) }},
	{"QuotientBelow", impl.QuotientBelow},
	{"CompareDyadics", func(c, d impl.Dyadic, k int64) (impl.Dyadic, int64) {
		sign, code := impl.CompareDyadics(c, d)
		return impl.Dyadic{Exponent: sign}, code
	}},
}

// ErrInvalid goes ahead of ErrRange and of ErrState, whichever argument is no exact number.
func TestDyadicsThatAreNone(t *testing.T) {
	others := []impl.Dyadic{{}, dyadic(t, big.NewInt(-3), -600), dyadic(t, power(2400, -1), 3000)}
	integers := append([]int64{0, 1, -1, 201, 501, 6001}, extremes...)
	for _, bad := range badDyadics() {
		for _, k := range integers {
			for _, f := range ofOneDyadic {
				d, code := f.call(bad, k)
				wantNoDyadic(t, fmt.Sprintf("%s(%v, %d)", f.name, bad, k), d, code, impl.ErrInvalid)
			}
			for _, f := range ofTwoDyadics {
				for _, other := range append(others, bad) {
					d, code := f.call(bad, other, k)
					wantNoDyadic(t, fmt.Sprintf("%s(%v, %v, %d)", f.name, bad, other, k), d, code, impl.ErrInvalid)
					d, code = f.call(other, bad, k)
					wantNoDyadic(t, fmt.Sprintf("%s(%v, %v, %d)", f.name, other, bad, k), d, code, impl.ErrInvalid)
				}
			}
		}
	}
}

// ErrInvalid goes ahead of ErrRange for whole numbers, too.
func TestMakeDyadicOfWhatIsNoWholeNumber(t *testing.T) {
	for _, bad := range badWholes() {
		for _, e := range append([]int64{0, 6000, -6001}, extremes...) {
			d, code := impl.MakeDyadic(bad, e)
			wantNoDyadic(t, fmt.Sprintf("MakeDyadic(%v, %d)", bad, e), d, code, impl.ErrInvalid)
		}
	}
}

// ErrRange goes ahead of ErrState, of an overflow, and of ErrLimit, of an error that is too large.
func TestModesThatAreNone(t *testing.T) {
	for _, d := range []impl.Dyadic{{}, dyadic(t, big.NewInt(-5), 3), dyadic(t, big.NewInt(1), 3000), dyadic(t, big.NewInt(1), -3000)} {
		for _, mode := range noModes {
			x, flags, code := impl.RoundDyadic(d, mode)
			wantFloat(t, fmt.Sprintf("RoundDyadic(%v, %d)", d, mode), x, code, 0, impl.ErrRange)
			wantInteger(t, fmt.Sprintf("the flags of RoundDyadic(%v, %d)", d, mode), flags, code, 0, impl.ErrRange)
			e, code := impl.ErrorOfRounding(d, mode)
			wantNoDyadic(t, fmt.Sprintf("ErrorOfRounding(%v, %d)", d, mode), e, code, impl.ErrRange)
		}
	}
}

// spaciousDyadic returns an exact number with room behind its limbs, and the limbs with that room.
func spaciousDyadic(d impl.Dyadic) (impl.Dyadic, []int64) {
	a, room := spacious(bigOf(d.Whole))
	return impl.Dyadic{Whole: a, Exponent: d.Exponent}, room
}

func TestDyadicsAreNotChangedAndShareNoMemory(t *testing.T) {
	numbers := []impl.Dyadic{
		{}, dyadic(t, big.NewInt(1), 0), dyadic(t, big.NewInt(-3), -2), dyadic(t, power(24, 1), 0), dyadic(t, power(48, 1), -150),
		dyadic(t, power(300, 1), -100), dyadic(t, power(2400, -1), -2350), dyadic(t, big.NewInt(1), -3000), dyadic(t, big.NewInt(-1), 3000),
	}
	for _, c := range numbers {
		for _, k := range []int64{0, 1, 2, 200} {
			for _, f := range ofOneDyadic {
				x, room := spaciousDyadic(c)
				before := slices.Clone(room)
				got, _ := f.call(x, k)
				spoil(got.Whole)
				if !slices.Equal(room, before) {
					t.Errorf("%s(%v, %d) changes or shares its argument", f.name, c, k)
				}
			}
			for _, d := range numbers {
				for _, f := range ofTwoDyadics {
					x, roomX := spaciousDyadic(c)
					y, roomY := spaciousDyadic(d)
					beforeX, beforeY := slices.Clone(roomX), slices.Clone(roomY)
					got, _ := f.call(x, y, k)
					spoil(got.Whole)
					if !slices.Equal(roomX, beforeX) || !slices.Equal(roomY, beforeY) {
						t.Errorf("%s(%v, %v, %d) changes or shares its arguments", f.name, c, d, k)
					}
				}
			}
		}
		for _, e := range []int64{0, 5, -24} {
			x, room := spaciousDyadic(c)
			before := slices.Clone(room)
			got, _ := impl.MakeDyadic(x.Whole, e)
			spoil(got.Whole)
			if !slices.Equal(room, before) {
				t.Errorf("MakeDyadic(%v, %d) changes or shares its argument", c.Whole, e)
			}
		}
	}
}
