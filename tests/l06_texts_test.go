package tests

import (
	"fmt"
	"math/big"
	"strings"
	"testing"

	"loop.example/g01172/impl"
)

// textOfEnd writes the value of a float as its odd part and the exponent.
func textOfEnd(x float32) string {
	switch x {
	case infinite:
		return "inf"
	case -infinite:
		return "-inf"
	}
	d := dyadicOf(floatRat(x))
	return fmt.Sprintf("%vp%d", bigOf(d.Whole), d.Exponent)
}

func TestIntervalsComeBackFromTheirTexts(t *testing.T) {
	for _, i := range append(someIntervals(), disorderedIntervals(49, 1000)...) {
		text, code := impl.IntervalText(i)
		if want := "[" + textOfEnd(i.Low) + "," + textOfEnd(i.High) + "]"; text != want || code != impl.ErrNone {
			t.Errorf("IntervalText(%s) = %q, %d, want %q, 0", named(i), text, code, want)
		}
		back, code := impl.ParseInterval(text)
		wantInterval(t, fmt.Sprintf("ParseInterval(%q)", text), back, code, i, impl.ErrNone)
	}
}

// intervalTexts are texts that are written out, with their intervals.
var intervalTexts = []struct {
	text string
	i    impl.Interval
}{
	{"[3p-2,1p1]", between(0.75, 2)},
	{"[0p0,0p0]", point(0)},
	{"[-3p-2,0p0]", between(-0.75, 0)},
	{"[-inf,inf]", allReals()},
	{"[-inf,1p1]", between(-infinite, 2)},
	{"[-1p1,inf]", between(-2, infinite)},
	{"[-1p-149,1p-149]", between(-least, least)},
	{"[-16777215p104,16777215p104]", between(-greatest, greatest)},
	{"[8388607p-149,1p-126]", between(greatestSubnorm, leastNormal)},
	{"[1p127,inf]", between(0x1p127, infinite)},
	{"[5p0,5p0]", point(5)},
}

func TestIntervalTextsThatAreWrittenOut(t *testing.T) {
	for _, e := range intervalTexts {
		text, code := impl.IntervalText(e.i)
		if text != e.text || code != impl.ErrNone {
			t.Errorf("IntervalText(%s) = %q, %d, want %q, 0", named(e.i), text, code, e.text)
		}
		i, code := impl.ParseInterval(e.text)
		wantInterval(t, fmt.Sprintf("ParseInterval(%q)", e.text), i, code, e.i, impl.ErrNone)
	}
}

func wantNoIntervalText(t *testing.T, text string) {
	t.Helper()
	i, code := impl.ParseInterval(text)
	wantInterval(t, fmt.Sprintf("ParseInterval(%q)", text), i, code, impl.Interval{}, impl.ErrSyntax)
}

func TestParseIntervalRefusesOtherTexts(t *testing.T) {
	for _, text := range []string{
		"", "[", "]", ",", "[]", "[,]", "[[", "]]", "][", "[1p0]", "[1p0,]", "[,1p0]", "1p0,1p1", "[1p0,1p1", "1p0,1p1]", "]1p0,1p1[",
		"[[1p0,1p1]", "[1p0,1p1]]", "[[1p0,1p1]]", "(1p0,1p1)", "[1p0,1p1)", "{1p0,1p1}", "[1p0;1p1]", "[1p0 1p1]", "[1p01p1]", "[1p0,1p1,1p2]", "[1p0,,1p1]", "[1p0,1p1,]", "[,1p0,1p1]",
		" [1p0,1p1]", "[1p0,1p1] ", "[ 1p0,1p1]", "[1p0 ,1p1]", "[1p0, 1p1]", "[1p0,1p1 ]", "[1p0,1p1]\n", "[1p0,1p1]\x00", "[1 p0,1p1]",
		// The numbers are in the wrong order.
		"[1p1,1p0]", "[0p0,-1p0]", "[1p0,-1p0]", "[1p-149,0p0]", "[-1p0,-3p0]", "[8388609p-23,1p0]",
		// Infinite ends are on the wrong side, or written otherwise.
		"[inf,inf]", "[-inf,-inf]", "[inf,-inf]", "[inf,1p0]", "[1p0,-inf]", "[+inf,inf]", "[-inf,+inf]", "[Inf,inf]", "[-Inf,Inf]", "[-inf,INF]", "[-infinite,inf]", "[--inf,inf]", "[-inf,infp0]", "[-inf,in]", "[nan,nan]", "[0p0,nan]", "[NaN,inf]",
		// The numbers are not in the form of their texts.
		"[2p0,1p2]", "[0p1,1p1]", "[-0p0,1p0]", "[-1p0,-0p0]", "[01p0,1p1]", "[1p0,1p01]", "[+1p0,1p1]", "[1p+0,1p1]", "[1p-0,1p1]", "[1,2]", "[1p,1p1]", "[p0,1p1]", "[1.5p0,1p1]", "[0x1p0,1p1]", "[1P0,1p1]", "[-,1p0]", "[1p0,-]",
		// The numbers are not values of floats.
		"[16777217p0,inf]", "[-inf,16777217p0]", "[0p0,33554431p0]", "[-33554433p-40,0p0]", "[1p-150,1p0]", "[-1p-150,1p0]", "[0p0,3p-150]", "[16777215p-150,1p0]", "[0p0,1p128]", "[-1p128,0p0]", "[0p0,16777215p105]", "[-inf,1p3000]", "[-1p3000,inf]", "[-1p-3000,0p0]", "[0p0,1p3001]",
		"[0p0," + power(2400, -1).String() + "p0]", "[0p0," + power(2400, 1).String() + "p0]", "[0p0," + strings.Repeat("9", 5000) + "p0]", "[0p0,1p" + strings.Repeat("9", 1000) + "]",
	} {
		wantNoIntervalText(t, text)
	}
}

// A text that has an interval is the text of this interval, so that no other text has it.
func wantOwnText(t *testing.T, text string) {
	t.Helper()
	i, code := impl.ParseInterval(text)
	if code == impl.ErrNone {
		if own, _ := impl.IntervalText(i); own != text || !impl.IsInterval(i) {
			t.Errorf("ParseInterval(%q) = %s, whose text is %q", text, named(i), own)
		}
		return
	}
	wantNoIntervalText(t, text)
}

func TestTextsWithAnotherCharacter(t *testing.T) {
	for _, e := range intervalTexts {
		for k := range len(e.text) {
			wantOwnText(t, e.text[:k]+e.text[k+1:])
			wantOwnText(t, e.text[:k]+e.text[k:k+1]+e.text[k:])
			for _, other := range []string{"[", "]", ",", "p", "-", "+", "0", "1", "2", "9", "i", "n", "f", " ", "\n", ".", "é"} {
				wantOwnText(t, e.text[:k]+other+e.text[k+1:])
				wantOwnText(t, e.text[:k]+other+e.text[k:])
			}
		}
	}
}

// All odd numbers with exponents around those of the least and of the greatest floats: the text is
// that of an interval exactly if the number is the value of a float.
func TestTextsOfNumbersNextToFloats(t *testing.T) {
	for _, n := range []int64{1, 3, 1<<23 - 1, 1<<23 + 1, 1<<24 - 1, 1<<24 + 1, 1<<25 - 1} {
		for _, e := range []int64{-174, -173, -151, -150, -149, -148, -1, 0, 1, 103, 104, 105, 126, 127, 128} {
			r := scaled(big.NewInt(n), e)
			text := fmt.Sprintf("[0p0,%dp%d]", n, e)
			low, high := enclosed(r)
			if low != high || high == infinite {
				wantNoIntervalText(t, text)
				continue
			}
			i, code := impl.ParseInterval(text)
			wantInterval(t, fmt.Sprintf("ParseInterval(%q)", text), i, code, between(0, high), impl.ErrNone)
		}
	}
}
