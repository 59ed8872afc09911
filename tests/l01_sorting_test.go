package tests

import (
	"math"
	"slices"
	"testing"

	"loop.example/g01172/impl"
)

// shuffled returns n floats in a fixed disorder: all edge cases, both zeros and NaN among them,
// again and again.
func shuffled(n int) []float32 {
	all := append(ascendingFloats(), notANumber)
	list := make([]float32, n)
	for i := range list {
		list[i] = all[i*37%len(all)]
	}
	return list
}

func bitsOfAll(list []float32) []int64 {
	var bits []int64
	for _, x := range list {
		bits = append(bits, impl.BitsOf(x))
	}
	slices.Sort(bits)
	return bits
}

func TestSortFloatsOfEdgeCases(t *testing.T) {
	for _, c := range []struct{ list, want []float32 }{
		{nil, nil},
		{[]float32{}, nil},
		{[]float32{2}, []float32{2}},
		{[]float32{notANumber}, []float32{notANumber}},
		{[]float32{minusZero}, []float32{minusZero}},
		{[]float32{0, minusZero, 0, minusZero}, []float32{minusZero, minusZero, 0, 0}},
		{[]float32{2, -1, infinite, 0.5}, []float32{-1, 0.5, 2, infinite}},
		{
			[]float32{notANumber, infinite, 1, notANumber, -infinite, 1, -1},
			[]float32{-infinite, -1, 1, 1, infinite, notANumber, notANumber},
		},
		{
			[]float32{leastSubnormal, 0, -leastSubnormal, minusZero, leastNormal, greatestSubnorm},
			[]float32{-leastSubnormal, minusZero, 0, leastSubnormal, greatestSubnorm, leastNormal},
		},
	} {
		sorted, code := impl.SortFloats(c.list)
		if !sameLists(sorted, c.want) || code != impl.ErrNone {
			t.Errorf("SortFloats(%v) = %v, %d", c.list, sorted, code)
		}
	}
}

func TestSortFloatsOrdersAllFloatsOfTheList(t *testing.T) {
	for _, n := range []int{1, 2, 61, 199, 200} {
		list := shuffled(n)
		sorted, code := impl.SortFloats(list)
		if code != impl.ErrNone {
			t.Fatalf("SortFloats of %d floats: code %d", n, code)
		}
		for i := 1; i < len(sorted); i++ {
			if impl.TotalLess(sorted[i], sorted[i-1]) {
				t.Errorf("%v is sorted behind %v", sorted[i], sorted[i-1])
			}
		}
		if !slices.Equal(bitsOfAll(sorted), bitsOfAll(list)) {
			t.Errorf("the sorted floats of %d are not those of the list", n)
		}
		again, _ := impl.SortFloats(sorted)
		if !sameLists(again, sorted) {
			t.Errorf("sorting %d sorted floats changes them", n)
		}
	}
}

func TestSortFloatsTellsFloatsApartByEachBit(t *testing.T) {
	const bits = 0x2AAAAAAA
	for bit := range 32 {
		x, y := math.Float32frombits(bits), math.Float32frombits(bits^1<<bit)
		sorted, code := impl.SortFloats([]float32{x, y})
		if !sameLists(sorted, []float32{min(x, y), max(x, y)}) || code != impl.ErrNone {
			t.Errorf("SortFloats(%v, %v) = %v, %d", x, y, sorted, code)
		}
	}
}

func TestSortFloatsRefusesLongLists(t *testing.T) {
	for _, n := range []int{201, 1000} {
		if sorted, code := impl.SortFloats(shuffled(n)); len(sorted) != 0 || code != impl.ErrRange {
			t.Errorf("SortFloats of %d floats = %v, %d", n, sorted, code)
		}
	}
}

func TestSortFloatsSharesNoMemory(t *testing.T) {
	for _, list := range [][]float32{{3}, {1, 2, 3}, {3, notANumber, 1, 2}} {
		spare := append(list, 7, 8, 9)
		given := spare[:len(list)]
		before := slices.Clone(spare)
		sorted, _ := impl.SortFloats(given)
		for i := range sorted {
			sorted[i] = 100
		}
		_ = append(sorted, 101)
		if !sameLists(spare, before) {
			t.Errorf("SortFloats changes its list, or shares it: %v, want %v", spare, before)
		}
	}
}

func TestLeastFloat(t *testing.T) {
	longest := make([]float32, 200)
	longest[199] = -5
	for _, c := range []struct {
		list []float32
		want float32
	}{
		{[]float32{2}, 2},
		{[]float32{2, -1, 0.5}, -1},
		{[]float32{0, minusZero}, minusZero},
		{[]float32{minusZero, 0}, minusZero},
		{[]float32{0, 0}, 0},
		{[]float32{infinite}, infinite},
		{[]float32{infinite, greatest}, greatest},
		{[]float32{-greatest, -infinite, 1}, -infinite},
		{[]float32{leastNormal, leastSubnormal, greatestSubnorm}, leastSubnormal},
		{longest, -5},
	} {
		x, code := impl.LeastFloat(c.list)
		wantFloat(t, "LeastFloat", x, code, c.want, impl.ErrNone)
	}
}

func TestLeastFloatIsTheFirstSortedOne(t *testing.T) {
	for _, n := range []int{1, 2, 20, 59} {
		list := slices.DeleteFunc(shuffled(n), func(x float32) bool { return x != x })
		sorted, _ := impl.SortFloats(list)
		x, code := impl.LeastFloat(list)
		wantFloat(t, "LeastFloat", x, code, sorted[0], impl.ErrNone)
	}
}

func TestLeastFloatLeavesItsListAsItIs(t *testing.T) {
	list := []float32{3, infinite, -1, 0, minusZero}
	before := slices.Clone(list)
	impl.LeastFloat(list)
	if !sameLists(list, before) {
		t.Errorf("LeastFloat changes its list to %v", list)
	}
}

func TestLeastFloatErrorsInTheirOrder(t *testing.T) {
	tooLong := make([]float32, 201)
	tooLong[0] = notANumber
	for _, list := range [][]float32{nil, {}, make([]float32, 201), tooLong} {
		x, code := impl.LeastFloat(list)
		wantFloat(t, "LeastFloat", x, code, 0, impl.ErrRange)
	}
	lastNaN := make([]float32, 200)
	lastNaN[199] = notANumber
	for _, list := range [][]float32{{notANumber}, {1, notANumber}, {notANumber, 1}, {1, notANumber, -1}, lastNaN} {
		x, code := impl.LeastFloat(list)
		wantFloat(t, "LeastFloat", x, code, 0, impl.ErrInvalid)
	}
}
