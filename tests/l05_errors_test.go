package tests

import (
	"fmt"
	"math"
	"math/big"
	"slices"
	"testing"

	"loop.example/g01172/impl"
)

// noPairs returns what is no pair, a kind each.
func noPairs() []impl.Pair {
	otherNaN := math.Float32frombits(0xffc12345)
	return []impl.Pair{
		{High: infinite}, {High: -infinite}, {High: notANumber}, {High: otherNaN, Low: 1}, {High: 1, Low: notANumber}, {High: 0, Low: infinite},
		{High: infinite, Low: infinite}, {High: infinite, Low: -infinite}, {High: notANumber, Low: notANumber},
		{High: 1, Low: 1}, {High: 0, Low: least}, {High: minusZero, Low: -least}, {High: 0x1.000002p0, Low: 0x1p-24}, {High: greatest, Low: 0x1p103},
	}
}

// notFinite are floats that no sum takes.
func notFinite() []float32 {
	return []float32{infinite, -infinite, notANumber, math.Float32frombits(0xff812345)}
}

// ErrInvalid goes ahead of ErrLimit, ErrState and whatever else could be told.
func TestExactPairsOfFloatsThatAreNotFinite(t *testing.T) {
	for _, bad := range notFinite() {
		for _, y := range append(notFinite(), 0, minusZero, least, -1, greatest) {
			for _, f := range exactPairs {
				p, code := f.call(bad, y)
				wantPair(t, fmt.Sprintf("%s(%v, %v)", f.name, bad, y), p, code, impl.Pair{}, impl.ErrInvalid)
				p, code = f.call(y, bad)
				wantPair(t, fmt.Sprintf("%s(%v, %v)", f.name, y, bad), p, code, impl.Pair{}, impl.ErrInvalid)
			}
		}
	}
}

func TestPairsThatAreNone(t *testing.T) {
	others := append(noPairs(), impl.Pair{}, impl.Pair{High: minusZero}, impl.Pair{High: 1, Low: 0x1p-30}, impl.Pair{High: greatest}, impl.Pair{High: least})
	numbers := append(badDyadics()[:5], impl.Dyadic{}, dyadic(t, big.NewInt(3), -5), dyadic(t, big.NewInt(1), 3000))
	for _, bad := range noPairs() {
		for _, q := range others {
			for _, f := range pairSteps {
				p, code := f.call(bad, q)
				wantPair(t, fmt.Sprintf("%s(%v, %v)", f.name, bad, q), p, code, impl.Pair{}, impl.ErrInvalid)
				p, code = f.call(q, bad)
				wantPair(t, fmt.Sprintf("%s(%v, %v)", f.name, q, bad), p, code, impl.Pair{}, impl.ErrInvalid)
			}
		}
		d, code := impl.ValueOfPair(bad)
		wantNoDyadic(t, fmt.Sprintf("ValueOfPair(%v)", bad), d, code, impl.ErrInvalid)
		for _, c := range numbers {
			d, code := impl.ErrorOfPair(bad, c)
			wantNoDyadic(t, fmt.Sprintf("ErrorOfPair(%v, %v)", bad, c), d, code, impl.ErrInvalid)
		}
	}
}

func TestPairsOfNumbersThatAreNone(t *testing.T) {
	for _, bad := range badDyadics() {
		p, code := impl.PairOfDyadic(bad)
		wantPair(t, fmt.Sprintf("PairOfDyadic(%v)", bad), p, code, impl.Pair{}, impl.ErrInvalid)
		for _, p := range []impl.Pair{{}, {High: 1, Low: 0x1p-30}, {High: -greatest}} {
			d, code := impl.ErrorOfPair(p, bad)
			wantNoDyadic(t, fmt.Sprintf("ErrorOfPair(%v, %v)", p, bad), d, code, impl.ErrInvalid)
		}
	}
}

// ErrState goes ahead of ErrLimit here, and behind it for an exact product.
func TestPairsOverZeros(t *testing.T) {
	zeros := []impl.Pair{{}, {High: minusZero}, {Low: minusZero}, {High: minusZero, Low: minusZero}}
	for _, q := range zeros {
		for _, p := range append(somePairs(), zeros...) {
			got, code := impl.DividePairs(p, q)
			wantPair(t, fmt.Sprintf("DividePairs(%v, %v)", p, q), got, code, impl.Pair{}, impl.ErrState)
		}
	}
	p, code := impl.ExactProduct(0x1.000002p64, 0x1.000002p64)
	wantPair(t, "an ExactProduct that is infinite", p, code, impl.Pair{}, impl.ErrLimit)
	p, code = impl.ExactProduct(0x1.000002p-64, 0x1.000002p-64)
	wantPair(t, "an ExactProduct with a rest", p, code, impl.Pair{}, impl.ErrState)
}

// expansionCall is a function of an expansion; it tells whether all but the code is a zero value.
type expansionCall struct {
	name string
	call func(list []float32) (isZero bool, code int64)
}

var expansionCalls = []expansionCall{
	{"ValueOfExpansion", func(list []float32) (bool, int64) {
		d, code := impl.ValueOfExpansion(list)
		return sameDyadics(d, impl.Dyadic{}), code
	}},
	{"GrowExpansion by 1", func(list []float32) (bool, int64) {
		grown, code := impl.GrowExpansion(list, 1)
		return len(grown) == 0, code
	}},
	{"GrowExpansion by NaN", func(list []float32) (bool, int64) {
		grown, code := impl.GrowExpansion(list, notANumber)
		return len(grown) == 0, code
	}},
	{"CompressExpansion", func(list []float32) (bool, int64) {
		parts, code := impl.CompressExpansion(list)
		return len(parts) == 0, code
	}},
	{"SignOfExpansion", func(list []float32) (bool, int64) {
		sign, code := impl.SignOfExpansion(list)
		return sign == 0, code
	}},
	{"RoundExpansion Down", func(list []float32) (bool, int64) {
		x, flags, code := impl.RoundExpansion(list, impl.Down)
		return same(x, 0) && flags == 0, code
	}},
	{"RoundExpansion in the mode 5", func(list []float32) (bool, int64) {
		x, flags, code := impl.RoundExpansion(list, 5)
		return same(x, 0) && flags == 0, code
	}},
}

func wantNoExpansion(t *testing.T, f expansionCall, list []float32, wantCode int64) {
	t.Helper()
	if isZero, code := f.call(list); !isZero || code != wantCode {
		t.Errorf("%s of %v has the code %d, want %d, zero values: %v", f.name, list, code, wantCode, isZero)
	}
}

// The number of floats goes ahead of what they are, and of the mode.
func TestListsThatAreNoExpansions(t *testing.T) {
	tooLong := [][]float32{make([]float32, 9), {1, 2, 3, 4, 5, 6, 7, 8, 9}, {1, 2, 3, 4, 5, 6, 7, 8, notANumber}, {infinite, 9: 1}, make([]float32, 1000)}
	for _, list := range append(tooLong, nil, []float32{}, []float32{1, 2}[:0]) {
		for _, f := range expansionCalls {
			wantNoExpansion(t, f, list, impl.ErrRange)
		}
	}
	for _, bad := range notFinite() {
		for _, list := range [][]float32{{bad}, {bad, 1}, {1, bad}, {0, greatest, bad, greatest}, {greatest, greatest, bad}, {1, 2, 3, 4, 5, 6, bad}} {
			for _, f := range expansionCalls {
				wantNoExpansion(t, f, list, impl.ErrInvalid)
			}
		}
		full := []float32{1, 2, 3, bad, 5, 6, 7, 8}
		for _, f := range expansionCalls {
			want := int64(impl.ErrInvalid)
			if f.name == "GrowExpansion by 1" || f.name == "GrowExpansion by NaN" {
				want = impl.ErrRange
			}
			wantNoExpansion(t, f, full, want)
		}
	}
}

func TestExpansionsGrowByNothingThatIsNotFinite(t *testing.T) {
	for _, bad := range notFinite() {
		for _, list := range [][]float32{{1}, {0, minusZero}, {greatest, greatest}, {1, 2, 3, 4, 5, 6, 7}} {
			grown, code := impl.GrowExpansion(list, bad)
			wantList(t, fmt.Sprintf("GrowExpansion(%v, %v)", list, bad), grown, code, nil, impl.ErrInvalid)
		}
		grown, code := impl.GrowExpansion([]float32{1, 2, 3, 4, 5, 6, 7, 8}, bad)
		wantList(t, "GrowExpansion of 8 floats", grown, code, nil, impl.ErrRange)
	}
}

// Floats that are not finite go ahead of the mode.
func TestModesThatAreNoneForExpansions(t *testing.T) {
	for _, mode := range noModes {
		for _, list := range [][]float32{{0}, {1, 0x1p-30}, {greatest, greatest}, {1, 2, 3, 4, 5, 6, 7, 8}} {
			x, flags, code := impl.RoundExpansion(list, mode)
			wantResult(t, fmt.Sprintf("RoundExpansion(%v, %d)", list, mode), x, flags, code, 0, 0, impl.ErrRange)
		}
		for _, bad := range notFinite() {
			x, flags, code := impl.RoundExpansion([]float32{1, bad}, mode)
			wantResult(t, fmt.Sprintf("RoundExpansion({1, %v}, %d)", bad, mode), x, flags, code, 0, 0, impl.ErrInvalid)
		}
	}
}

// Beside a code there is a zero value where a sum or a first float is infinite, too.
func TestExpansionsBeyondTheGreatestFloat(t *testing.T) {
	for _, list := range [][]float32{{greatest, greatest}, {-greatest, -0x1p103}, {1, greatest, 2, greatest, 3}} {
		parts, code := impl.CompressExpansion(list)
		wantList(t, fmt.Sprintf("CompressExpansion(%v)", list), parts, code, nil, impl.ErrLimit)
		grown, code := impl.GrowExpansion(list, 1)
		wantList(t, fmt.Sprintf("GrowExpansion(%v, 1)", list), grown, code, nil, impl.ErrLimit)
	}
}

// The list has room behind it, into which no function writes, and results are new memory with
// whatever room they have.
func TestExpansionsAreNotChangedAndShareNoMemory(t *testing.T) {
	for _, list := range someExpansions() {
		room := append(slices.Clone(list), 7, 8, 9)
		before := slices.Clone(room)
		given := room[:len(list)]
		grown, _ := impl.GrowExpansion(given, 0x1p-20)
		parts, _ := impl.CompressExpansion(given)
		for _, result := range [][]float32{grown, parts} {
			for i := range result {
				result[i] = -1
			}
			_ = append(result, -2)
		}
		for _, f := range expansionCalls {
			f.call(given)
		}
		if !sameLists(room, before) {
			t.Errorf("%v is changed to %v, or shared", before, room)
		}
	}
}

func TestNumbersOfPairsAreNotChangedAndShareNoMemory(t *testing.T) {
	for _, d := range someDyadics() {
		if len(d.Whole.Limbs) == 0 {
			continue
		}
		for _, p := range []impl.Pair{{}, {High: 1, Low: 0x1p-30}, {High: -greatest}} {
			given, room := spaciousDyadic(d)
			before := slices.Clone(room)
			_, _ = impl.PairOfDyadic(given)
			e, _ := impl.ErrorOfPair(p, given)
			spoil(e.Whole)
			if !slices.Equal(room, before) {
				t.Errorf("ErrorOfPair(%v, %v) changes or shares its argument", p, d)
			}
		}
	}
}
