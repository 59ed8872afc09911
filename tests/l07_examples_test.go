package tests

import (
	"fmt"
	"testing"

	"loop.example/g01172/impl"
)

// valueExample has the values of a function in the five modes, in order.
type valueExample struct {
	f    realFunction
	x    float32
	want [5]float32
}

// towards returns the values in the five modes of a number between two floats, of which near is the
// nearest one.
func towards(low, high, near float32) [5]float32 {
	if high <= 0 {
		return [5]float32{near, low, high, high, low}
	}
	return [5]float32{near, low, high, low, high}
}

func wantValues(t *testing.T, examples []valueExample) {
	t.Helper()
	for _, e := range examples {
		for _, mode := range modes {
			y, code := e.f.call(e.x, mode)
			wantFloat(t, fmt.Sprintf("%sIn(%x, %d)", e.f.name, e.x, mode), y, code, e.want[mode], impl.ErrNone)
		}
	}
}

func TestValuesThatAreRational(t *testing.T) {
	wantValues(t, []valueExample{
		{exponential, 0, alike[float32](1)},
		{exponential, minusZero, alike[float32](1)},
		{logarithm, 1, alike[float32](0)},
		{arcusTangent, 0, alike[float32](0)},
		{arcusTangent, minusZero, alike(minusZero)},
		{sine, 0, alike[float32](0)},
		{sine, minusZero, alike(minusZero)},
	})
}

func TestExponentialExamples(t *testing.T) {
	const belowOne = 0x1.fffffep-1
	const aboveOne = 0x1.000002p0
	wantValues(t, []valueExample{
		{exponential, 1, towards(0x1.5bf0a8p1, 0x1.5bf0aap1, 0x1.5bf0a8p1)},
		{exponential, -1, towards(0x1.78b562p-2, 0x1.78b564p-2, 0x1.78b564p-2)},
		// Next to 1.
		{exponential, least, towards(1, aboveOne, 1)},
		{exponential, -least, towards(belowOne, 1, 1)},
		{exponential, greatestSubnorm, towards(1, aboveOne, 1)},
		{exponential, -leastNormal, towards(belowOne, 1, 1)},
		{exponential, 0x1p-25, towards(1, aboveOne, 1)},
		{exponential, 0x1p-24, towards(1, aboveOne, aboveOne)},
		{exponential, -0x1p-26, towards(belowOne, 1, 1)},
		{exponential, -0x1p-25, towards(belowOne, 1, 1)},
		{exponential, -0x1.000002p-25, towards(belowOne, 1, belowOne)},
		// Next to 2^128, and beyond.
		{exponential, 0x1.62e42ep6, towards(0x1.ffff08p127, 0x1.ffff0ap127, 0x1.ffff08p127)},
		{exponential, 0x1.62e43p6, pastGreatest},
		{exponential, 100, pastGreatest},
		{exponential, 255, pastGreatest},
		{exponential, 256, pastGreatest},
		{exponential, 257, pastGreatest},
		{exponential, 0x1p32, pastGreatest},
		{exponential, greatest, pastGreatest},
		// Next to the least normal float, to the least float and to half of it, and below.
		{exponential, -0x1.5d589ep6, towards(0x1.00004ap-126, 0x1.00004cp-126, 0x1.00004cp-126)},
		{exponential, -0x1.5d58ap6, towards(0x1.ffff94p-127, 0x1.ffff98p-127, 0x1.ffff98p-127)},
		{exponential, -100, towards(26*least, 27*least, 27*least)},
		{exponential, -0x1.9d1d9ep6, towards(least, 2*least, least)},
		{exponential, -0x1.9d1dap6, towards(0, least, least)},
		{exponential, -0x1.9fe368p6, towards(0, least, least)},
		{exponential, -0x1.9fe36ap6, towards(0, least, 0)},
		{exponential, -200, towards(0, least, 0)},
		{exponential, -255, towards(0, least, 0)},
		{exponential, -256, towards(0, least, 0)},
		{exponential, -257, towards(0, least, 0)},
		{exponential, -0x1p32, towards(0, least, 0)},
		{exponential, -greatest, towards(0, least, 0)},
	})
}

func TestLogarithmExamples(t *testing.T) {
	wantValues(t, []valueExample{
		{logarithm, 2, towards(0x1.62e42ep-1, 0x1.62e43p-1, 0x1.62e43p-1)},
		{logarithm, 0.5, towards(-0x1.62e43p-1, -0x1.62e42ep-1, -0x1.62e43p-1)},
		{logarithm, 10, towards(0x1.26bb1ap1, 0x1.26bb1cp1, 0x1.26bb1cp1)},
		{logarithm, 0x1.000002p0, towards(0x1.fffffep-24, 0x1p-23, 0x1.fffffep-24)},
		{logarithm, 0x1.fffffep-1, towards(-0x1.000002p-24, -0x1p-24, -0x1p-24)},
		{logarithm, least, towards(-0x1.9d1dap6, -0x1.9d1d9ep6, -0x1.9d1dap6)},
		{logarithm, 2 * least, towards(-0x1.9a57d8p6, -0x1.9a57d6p6, -0x1.9a57d8p6)},
		{logarithm, greatestSubnorm, towards(-0x1.5d58ap6, -0x1.5d589ep6, -0x1.5d58ap6)},
		{logarithm, leastNormal, towards(-0x1.5d58ap6, -0x1.5d589ep6, -0x1.5d58ap6)},
		{logarithm, greatest, towards(0x1.62e42ep6, 0x1.62e43p6, 0x1.62e43p6)},
	})
}

func TestArcusTangentExamples(t *testing.T) {
	half := towards(0x1.921fb4p0, 0x1.921fb6p0, 0x1.921fb6p0)
	wantValues(t, []valueExample{
		{arcusTangent, 1, towards(0x1.921fb4p-1, 0x1.921fb6p-1, 0x1.921fb6p-1)},
		{arcusTangent, -1, towards(-0x1.921fb6p-1, -0x1.921fb4p-1, -0x1.921fb6p-1)},
		{arcusTangent, 2, towards(0x1.1b6e18p0, 0x1.1b6e1ap0, 0x1.1b6e1ap0)},
		{arcusTangent, least, towards(0, least, least)},
		{arcusTangent, -least, [5]float32{-least, -least, minusZero, minusZero, -least}},
		{arcusTangent, 2 * least, towards(least, 2*least, 2*least)},
		{arcusTangent, greatestSubnorm, towards(greatestSubnorm-least, greatestSubnorm, greatestSubnorm)},
		{arcusTangent, leastNormal, towards(greatestSubnorm, leastNormal, leastNormal)},
		{arcusTangent, -leastNormal, towards(-leastNormal, -greatestSubnorm, -leastNormal)},
		{arcusTangent, 0x1p64, half},
		{arcusTangent, greatest, half},
		{arcusTangent, -greatest, towards(-0x1.921fb6p0, -0x1.921fb4p0, -0x1.921fb6p0)},
	})
}

func TestSineExamples(t *testing.T) {
	const belowOne = 0x1.fffffep-1
	wantValues(t, []valueExample{
		{sine, 1, towards(0x1.aed548p-1, 0x1.aed54ap-1, 0x1.aed548p-1)},
		{sine, 2, towards(0x1.d18f6ep-1, 0x1.d18f7p-1, 0x1.d18f6ep-1)},
		{sine, 3, towards(0x1.210386p-3, 0x1.210388p-3, 0x1.210386p-3)},
		{sine, 4, towards(-0x1.837b9ep-1, -0x1.837b9cp-1, -0x1.837b9ep-1)},
		{sine, -1, towards(-0x1.aed54ap-1, -0x1.aed548p-1, -0x1.aed548p-1)},
		{sine, least, towards(0, least, least)},
		{sine, -least, [5]float32{-least, -least, minusZero, minusZero, -least}},
		{sine, greatestSubnorm, towards(greatestSubnorm-least, greatestSubnorm, greatestSubnorm)},
		{sine, leastNormal, towards(greatestSubnorm, leastNormal, leastNormal)},
		// On either side of one, two, three and four right angles, and next to 322 of them.
		{sine, 0x1.921fb4p0, towards(belowOne, 1, 1)},
		{sine, 0x1.921fb6p0, towards(belowOne, 1, 1)},
		{sine, 0x1.921fb4p1, towards(0x1.4442dp-23, 0x1.4442d2p-23, 0x1.4442d2p-23)},
		{sine, 0x1.921fb6p1, towards(-0x1.777a5ep-24, -0x1.777a5cp-24, -0x1.777a5cp-24)},
		{sine, 0x1.2d97c6p2, towards(-1, -belowOne, -1)},
		{sine, 0x1.2d97c8p2, towards(-1, -belowOne, -1)},
		{sine, 0x1.921fb4p2, towards(-0x1.4442d2p-22, -0x1.4442dp-22, -0x1.4442d2p-22)},
		{sine, 0x1.921fb6p2, towards(0x1.777a5cp-23, 0x1.777a5ep-23, 0x1.777a5cp-23)},
		{sine, 0x1.f9cbe2p8, towards(-0x1.1fa3bcp-27, -0x1.1fa3bap-27, -0x1.1fa3bcp-27)},
		// The greatest angles.
		{sine, maxAngle, towards(0x1.526ccap-2, 0x1.526cccp-2, 0x1.526cccp-2)},
		{sine, -maxAngle, towards(-0x1.526cccp-2, -0x1.526ccap-2, -0x1.526cccp-2)},
		{sine, 0x1.fffffep19, towards(0x1.156658p-2, 0x1.15665ap-2, 0x1.156658p-2)},
		{sine, -0x1.fffffep19, towards(-0x1.15665ap-2, -0x1.156658p-2, -0x1.156658p-2)},
	})
}

func TestCircleExamples(t *testing.T) {
	for _, e := range []struct {
		k    int64
		want [5]float32
	}{
		{0, alike[float32](0)},
		{1, towards(0x1.921fb4p-1, 0x1.921fb6p-1, 0x1.921fb6p-1)},
		{2, towards(0x1.921fb4p0, 0x1.921fb6p0, 0x1.921fb6p0)},
		{3, towards(0x1.2d97c6p1, 0x1.2d97c8p1, 0x1.2d97c8p1)},
		{4, towards(13176794.0/4194304, 13176795.0/4194304, 13176795.0/4194304)},
		{-1, towards(-0x1.921fb6p-1, -0x1.921fb4p-1, -0x1.921fb6p-1)},
		{-4, towards(-0x1.921fb6p1, -0x1.921fb4p1, -0x1.921fb6p1)},
		{99, towards(0x1.370486p6, 0x1.370488p6, 0x1.370486p6)},
		{100, towards(0x1.3a28c4p6, 0x1.3a28c6p6, 0x1.3a28c6p6)},
		{-100, towards(-0x1.3a28c6p6, -0x1.3a28c4p6, -0x1.3a28c6p6)},
	} {
		for _, mode := range modes {
			x, code := impl.CircleIn(e.k, mode)
			wantFloat(t, fmt.Sprintf("CircleIn(%d, %d)", e.k, mode), x, code, e.want[mode], impl.ErrNone)
		}
	}
}
