package impl

import (
	"cmp"
	"math"
	"slices"
)

// Error codes of all chapters.
const (
	ErrNone = iota
	ErrInvalid
	ErrRange
	ErrLimit
	ErrNotFound
	ErrState
	ErrSyntax
)

// Modes of rounding.
const (
	Nearest = iota
	Down
	Up
	ToZero
	Outward
)

// Flags of rounding, which are added up.
const (
	FlagInexact = 1 << iota
	FlagTiny
	FlagOverflow
	FlagInvalid
	FlagDivide
)

// Classes of floats.
const (
	ClassZero = iota
	ClassSubnormal
	ClassNormal
	ClassInfinite
	ClassNaN
)

const (
	fractionBits  = 23
	fractionLimit = 1 << fractionBits
	signBit       = 1 << 31
	infiniteBits  = 255 << fractionBits
	nanBits       = 2143289344

	maxListed = 200
	maxScale  = 400
)

// BitsOf returns the bits of a float.
func BitsOf(x float32) int64 {
	if x != x {
		return nanBits
	}
	return int64(math.Float32bits(x))
}

// FloatOfBits returns the float with the bits n, in 0..4294967295, and ErrNone.
func FloatOfBits(n int64) (float32, int64) {
	if n < 0 || n >= 2*signBit {
		return 0, ErrRange
	}
	if n&^signBit > infiniteBits {
		n = nanBits
	}
	return math.Float32frombits(uint32(n)), ErrNone
}

// ClassOf returns the class of a float: ClassZero, ClassSubnormal, ClassNormal, ClassInfinite or
// ClassNaN.
func ClassOf(x float32) int64 {
	size := unsignedBits(x)
	switch {
	case size == 0:
		return ClassZero
	case size < fractionLimit:
		return ClassSubnormal
	case size < infiniteBits:
		return ClassNormal
	case size == infiniteBits:
		return ClassInfinite
	}
	return ClassNaN
}

func unsignedBits(x float32) int64 {
	return BitsOf(x) &^ signBit
}

func isFinite(x float32) bool {
	return unsignedBits(x) < infiniteBits
}

// PartsOf returns, for a finite float, the integer m with its sign and the exponent e, for which
// it is m 2^e and e is its last place's exponent (m is 0 for zeros), and ErrNone.
func PartsOf(x float32) (int64, int64, int64) {
	if !isFinite(x) {
		return 0, 0, ErrInvalid
	}
	exponent := unsignedBits(x) / fractionLimit
	m := unsignedBits(x) % fractionLimit
	if exponent == 0 {
		exponent = 1 // subnormal floats share the last place of the least normal ones
	} else {
		m += fractionLimit
	}
	if x < 0 {
		m = -m
	}
	return m, exponent - 150, ErrNone
}

// PlaceOf returns the place of a float, and ErrNone.
func PlaceOf(x float32) (int64, int64) {
	if x != x {
		return 0, ErrInvalid
	}
	if x < 0 {
		return -unsignedBits(x), ErrNone
	}
	return unsignedBits(x), ErrNone
}

// FloatAtPlace returns the float at a place in -2139095040..2139095040, 0 (not -0) at 0, and
// ErrNone.
func FloatAtPlace(n int64) (float32, int64) {
	if n < -infiniteBits || n > infiniteBits {
		return 0, ErrRange
	}
	if n < 0 {
		return FloatOfBits(signBit - n)
	}
	return FloatOfBits(n)
}

// NextUp returns the float at the next greater place, 0 (not -0) if that is 0, and the positive
// infinite float itself, and ErrNone.
func NextUp(x float32) (float32, int64) {
	return neighbour(x, 1)
}

// NextDown returns the float at the next less place, 0 (not -0) if that is 0, and the negative
// infinite float itself, and ErrNone.
func NextDown(x float32) (float32, int64) {
	return neighbour(x, -1)
}

func neighbour(x float32, step int64) (float32, int64) {
	place, code := PlaceOf(x)
	if code != ErrNone {
		return 0, code
	}
	return FloatAtPlace(max(-infiniteBits, min(place+step, infiniteBits)))
}

// PlacesBetween returns the absolute value of the difference of the places of two finite floats,
// and ErrNone.
func PlacesBetween(x float32, y float32) (int64, int64) {
	if !isFinite(x) || !isFinite(y) {
		return 0, ErrInvalid
	}
	p, _ := PlaceOf(x)
	q, _ := PlaceOf(y)
	return max(p-q, q-p), ErrNone
}

// LastPlace returns the last place of a finite float, and ErrNone.
func LastPlace(x float32) (float32, int64) {
	_, exponent, code := PartsOf(x)
	if code != ErrNone {
		return 0, code
	}
	return ScaleFloat(1, exponent)
}

// CompareFloats returns -1, 0 or 1, if x is less than, equal to or greater than y, and ErrNone;
// both zeros are equal.
func CompareFloats(x float32, y float32) (int64, int64) {
	if x != x || y != y {
		return 0, ErrInvalid
	}
	return int64(cmp.Compare(x, y)), ErrNone
}

// TotalLess reports whether x is ahead of y in the total order.
func TotalLess(x float32, y float32) bool {
	return rankOf(x) < rankOf(y)
}

// rankOf returns an integer that grows along the total order: unlike the place, it tells -0 from
// 0, and the bits of NaN are already greater than those of all other floats.
func rankOf(x float32) int64 {
	n := BitsOf(x)
	if n >= signBit {
		return signBit - 1 - n
	}
	return n
}

// ScaleFloat returns the float nearest to x 2^k, of two that are as near the one with an even
// fraction, for a finite float x and k in -400..400, and ErrNone; zeros stay as they are, and what
// is rounded to 0 keeps its sign. Errors: ErrLimit if it is not finite.
func ScaleFloat(x float32, k int64) (float32, int64) {
	if !isFinite(x) {
		return 0, ErrInvalid
	}
	if k < -maxScale || k > maxScale {
		return 0, ErrRange
	}
	// x 2^k is a normal float64 for all these x and k, so only the conversion rounds.
	y := float32(math.Ldexp(float64(x), int(k)))
	if !isFinite(y) {
		return 0, ErrLimit
	}
	return y, ErrNone
}

// IsWholeFloat reports whether a finite float is an integer, and returns ErrNone.
func IsWholeFloat(x float32) (bool, int64) {
	if !isFinite(x) {
		return false, ErrInvalid
	}
	wide := float64(x)
	return wide == math.Trunc(wide), ErrNone
}

// SortFloats returns the floats of a list of at most 200, NaN among them, too, in the total
// order, and ErrNone. (ErrInvalid is not returned.)
func SortFloats(list []float32) ([]float32, int64) {
	if len(list) > maxListed {
		return nil, ErrRange
	}
	// Floats themselves are no keys: NaN is not equal to itself, and 0 is equal to -0.
	counts := map[[4]byte]int{}
	var different []float32
	for _, x := range list {
		key := bytesOf(x)
		if counts[key] == 0 {
			different = append(different, x)
		}
		counts[key]++
	}
	slices.SortFunc(different, compareInTotal)
	var sorted []float32
	for _, x := range different {
		for range counts[bytesOf(x)] {
			sorted = append(sorted, x)
		}
	}
	return sorted, ErrNone
}

// bytesOf returns the bits of a float as four bytes, the highest one first.
func bytesOf(x float32) [4]byte {
	n := BitsOf(x)
	list := []byte{byte(n >> 24), byte(n >> 16), byte(n >> 8), byte(n)}
	return [4]byte(list)
}

func compareInTotal(x float32, y float32) int {
	return cmp.Compare(rankOf(x), rankOf(y))
}

// LeastFloat returns the first float of a list of 1 to 200 floats in the total order, and ErrNone.
// Errors: ErrInvalid also if one of them is NaN; ErrRange, before it, for other numbers of floats.
func LeastFloat(list []float32) (float32, int64) {
	if len(list) == 0 || len(list) > maxListed {
		return 0, ErrRange
	}
	least := list[0]
	for _, x := range list {
		if x != x {
			return 0, ErrInvalid
		}
		if TotalLess(x, least) {
			least = x
		}
	}
	return least, ErrNone
}
