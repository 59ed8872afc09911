package tests

import (
	"math"
	"math/big"
	"testing"

	"loop.example/g01172/impl"
)

// steps makes the steps of chapter 5 with exact numbers, each of them rounded by itself, and tells
// whether a float arose that is not finite; what follows then has no meaning.
type steps struct {
	failed bool
}

func (s *steps) operate(kind int, x, y float32) float32 {
	if s.failed {
		return 0
	}
	op := operations[kind]
	r := op.exact(floatRat(x), floatRat(y))
	if r.Sign() == 0 {
		return op.zero(x, y, impl.Nearest)
	}
	z, _ := r.Float32()
	s.failed = z-z != 0
	return z
}

func (s *steps) add(x, y float32) float32      { return s.operate(sumKind, x, y) }
func (s *steps) subtract(x, y float32) float32 { return s.operate(differenceKind, x, y) }
func (s *steps) multiply(x, y float32) float32 { return s.operate(productKind, x, y) }
func (s *steps) divide(x, y float32) float32   { return s.operate(quotientKind, x, y) }

// short returns the nearest float to the result of a kind, with the nearest float to what is left,
// and whether nothing is left then.
func (s *steps) short(kind int, x, y float32) (impl.Pair, bool) {
	high := s.operate(kind, x, y)
	if s.failed {
		return impl.Pair{}, false
	}
	rest := operations[kind].exact(floatRat(x), floatRat(y))
	rest.Sub(rest, floatRat(high))
	low, isFloat := rest.Float32()
	if low == 0 {
		return impl.Pair{High: high}, rest.Sign() == 0
	}
	return impl.Pair{High: high, Low: low}, isFloat
}

func (s *steps) exactSum(x, y float32) impl.Pair {
	p, _ := s.short(sumKind, x, y)
	return p
}

func (s *steps) quickSum(a, b float32) impl.Pair {
	high := s.add(a, b)
	return impl.Pair{High: high, Low: s.subtract(b, s.subtract(high, a))}
}

func (s *steps) sum(p, q impl.Pair) impl.Pair {
	heads, tails := s.exactSum(p.High, q.High), s.exactSum(p.Low, q.Low)
	v := s.quickSum(heads.High, s.add(heads.Low, tails.High))
	return s.quickSum(v.High, s.add(tails.Low, v.Low))
}

func (s *steps) product(p, q impl.Pair) impl.Pair {
	heads, _ := s.short(productKind, p.High, q.High)
	crossed := s.add(s.multiply(p.High, q.Low), s.multiply(p.Low, q.High))
	return s.quickSum(heads.High, s.add(heads.Low, crossed))
}

func (s *steps) quotient(p, q impl.Pair) impl.Pair {
	a := s.divide(p.High, q.High)
	product := s.product(q, impl.Pair{High: a})
	rest := s.sum(p, impl.Pair{High: turned(product.High), Low: turned(product.Low)})
	s.failed = s.failed || !isPair(product) || !isPair(rest)
	return s.quickSum(a, s.divide(rest.High, q.High))
}

// isPair follows the definition with exact numbers.
func isPair(p impl.Pair) bool {
	if p.High-p.High != 0 || p.Low-p.Low != 0 {
		return false
	}
	near, _ := pairRat(p).Float32()
	return near == p.High
}

func pairRat(p impl.Pair) *big.Rat {
	return sumRat(p.High, p.Low)
}

// sumRat returns the exact sum of finite floats.
func sumRat(floats ...float32) *big.Rat {
	sum := new(big.Rat)
	for _, x := range floats {
		sum.Add(sum, floatRat(x))
	}
	return sum
}

func samePairs(p, q impl.Pair) bool {
	return same(p.High, q.High) && same(p.Low, q.Low)
}

// wantPair checks a pair, with the signs of zeros, and a code.
func wantPair(t *testing.T, call string, p impl.Pair, code int64, want impl.Pair, wantCode int64) {
	t.Helper()
	if !samePairs(p, want) || code != wantCode {
		t.Errorf("%s = {%x, %x}, %d, want {%x, %x}, %d", call, p.High, p.Low, code, want.High, want.Low, wantCode)
	}
}

// lastPlaces returns floats of at most about a last place of x, next to half of it and to a
// quarter, which is the half beneath powers of two.
func lastPlaces(x float32) []float32 {
	last, _ := impl.LastPlace(x)
	half := last / 2
	all := []float32{0, last, half, math.Nextafter32(half, 0), math.Nextafter32(half, infinite), last / 4, math.Nextafter32(last/4, infinite), last / 8 * 3, 0x1.2468acp-3 * last, 0x1p-30 * last, least}
	for _, low := range all {
		all = append(all, turned(low))
	}
	return all
}

// somePairs returns pairs with High of all sizes, even and odd, and Low up to half of a last place.
func somePairs() []impl.Pair {
	highs := []float32{
		0, minusZero, least, -3 * least, greatestSubnorm, leastNormal, 0x1.000002p-126, -0x1.8p-120, 0x1.000002p-100, 0x1.fffffep-64,
		-0.1, 0x1.fffffep-1, 1, -1, 0x1.000002p0, 3, -0x1.921fb6p1, 0x1.fffffep63, -0x1p100, 0x1.fffffcp126, greatest, -greatest,
	}
	var all []impl.Pair
	for i, high := range highs {
		for j, low := range lastPlaces(high) {
			p := impl.Pair{High: high, Low: low}
			if isPair(p) && (i+j)%2 == 0 {
				all = append(all, p)
			}
		}
	}
	return all
}

// nearPairs calls visit with pairs that are not far apart in size, or nearly opposite.
func nearPairs(visit func(p, q impl.Pair)) {
	next := noise(11)
	low := func(high float32) float32 {
		all := lastPlaces(high)
		return all[next()%uint64(len(all))]
	}
	for i, x := range disordered(12, 3000) {
		y := float32(math.Ldexp(float64(x), int(next()%9)-4))
		if i%3 == 0 {
			y = x
		}
		y = math.Float32frombits(math.Float32bits(y) ^ uint32(next()>>16)&(1<<31|3))
		p, q := impl.Pair{High: x, Low: low(x)}, impl.Pair{High: y, Low: low(y)}
		if isPair(p) && isPair(q) {
			visit(p, q)
		}
	}
}

// someExpansions returns lists of 1 to 8 floats: far apart, overlapping, that cancel, of value 0,
// beyond the greatest float and with zeros of either sign.
func someExpansions() [][]float32 {
	all := [][]float32{
		{0}, {minusZero}, {1}, {-least}, {greatest}, {-greatest},
		{0, 0}, {minusZero, minusZero}, {0, minusZero}, {minusZero, 1, 0}, {1, minusZero}, {0, -1},
		{1, -1}, {1, 2, -3}, {0x1p-30, 1, -0x1p-30, -1}, {greatest, -greatest}, {least, -least, least},
		{greatest, greatest}, {greatest, 0x1p103}, {greatest, 0x1p102}, {-greatest, -0x1p103}, {greatest, greatest, -greatest},
		{greatest, 0x1p102, 0x1p102}, {greatest, greatest, greatest, greatest, greatest, greatest, greatest, greatest},
		{1, 2, 0x1p-40, 0}, {1, -1, -0x1p-140}, {0x1p127, -0x1p-149}, {0x1.000002p0, 0x1p-24}, {1, 0x1p-24}, {1, 0x1p-24, least}, {0x1.000002p0, 0x1p-24, -least},
		{0x1p-149, 0x1p-100, 0x1p-60, 0x1p-20, 1, 0x1p40, 0x1p80, 0x1p120},
		{0x1.fffffep127, -0x1.fffffep101, 0x1.fffffep75, -0x1.fffffep49, 0x1.fffffep23, -0x1.fffffep-3, 0x1.fffffep-29, -0x1.fffffep-55},
		{0x1.5p127, 0x1.5p100, 0x1.5p73, 0x1.5p46, 0x1.5p19, 0x1.5p-8, 0x1.5p-35},
	}
	next := noise(13)
	for length := 1; length <= impl.MaxParts; length++ {
		for i := range 60 {
			list := disordered(next(), length)
			if i%3 == 0 {
				for j := range list {
					list[j] = float32(math.Ldexp(1+float64(next()%(1<<23))*0x1p-23, int(next()%80)-40))
				}
			}
			if i%4 == 1 && length > 1 {
				list[length-1] = -list[0]
			}
			all = append(all, list)
		}
	}
	return all
}
