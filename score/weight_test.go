package score

import (
	"math"
	"testing"

	"plumbline/api"
)

var encodings = []int{api.Utf, api.Shift, api.Twin, api.Latin, api.Low, api.High}

var notEncodings = []int{api.None, -1, api.High + 1, 256, 257, 1<<32 + 1, math.MaxInt64, math.MinInt64}

var notBytes = []int{-1, -2, -128, 256, 256 + 'a', 1<<32 + 'a', math.MaxInt64, math.MinInt64}

// classes is P5.1, written out as the last byte of each range and its class.
var classes = []struct{ to, class int }{
	{8, 4}, {10, 1}, {12, 4}, {13, 1}, {31, 4}, {32, 1}, {47, 3}, {57, 2}, {64, 3},
	{90, 0}, {96, 3}, {122, 0}, {126, 3}, {127, 4}, {191, 5}, {255, 6},
}

func wantClass(b int) int {
	for _, c := range classes {
		if b <= c.to {
			return c.class
		}
	}
	return -1
}

// weights is P5.2 by classes: a row for the class of the first byte, a column
// for that of the second one; '-' is -1. The escape byte is not in it.
var weights = map[int][7]string{
	api.Utf:   {"2222000", "2222000", "2222000", "2222000", "0000000", "0000000", "0000060"},
	api.Shift: {"1111000", "1111000", "1111000", "1111000", "0000000", "0000000", "0000000"},
	api.Twin:  {"2222000", "2222000", "2222000", "2222000", "0000000", "4444044", "0000000"},
	api.Latin: {"2222--5", "2222---", "2222---", "2222---", "-------", "-------", "5------"},
	api.Low:   {"0000400", "0000400", "0000400", "0000400", "0000000", "0000000", "0000000"},
	api.High:  {"0000000", "0000000", "0000000", "0000000", "4444000", "0000000", "0000000"},
}

func wantWeight(e, a, b int) int {
	if e == api.Shift && (a == 27 || b == 27) {
		return 8
	}
	w := weights[e][wantClass(a)][wantClass(b)]
	if w == '-' {
		return -1
	}
	return int(w - '0')
}

// P5.1: every byte.
func TestClass(t *testing.T) {
	for b := range 256 {
		if got, want := Class(b), wantClass(b); got != want {
			t.Errorf("Class(%d): %d, want %d", b, got, want)
		}
	}
}

// P5.1: the bytes on both sides of every border, without the table.
func TestClassBorders(t *testing.T) {
	for class, bytes := range []string{
		"azAZmM",
		" \t\n\r",
		"0159",
		"!/:@[`{~._\"",
		"\x00\x08\x0b\x0c\x0e\x1b\x1f\x7f",
		"\x80\x81\x9f\xa0\xbf",
		"\xc0\xc1\xdf\xe0\xfe\xff",
	} {
		for i := range len(bytes) {
			if got := Class(int(bytes[i])); got != class {
				t.Errorf("Class(%d): %d, want %d", bytes[i], got, class)
			}
		}
	}
}

// P5.1: a number that is not a byte ends with one of the classes.
func TestClassNotBytes(t *testing.T) {
	for _, b := range notBytes {
		if got := Class(b); got < 0 || got > 6 {
			t.Errorf("Class(%d): %d", b, got)
		}
	}
}

// P5.2: every pair of bytes in every encoding.
func TestWeight(t *testing.T) {
	for _, e := range encodings {
		for a := range 256 {
			for b := range 256 {
				if got, want := Weight(e, a, b), wantWeight(e, a, b); got != want {
					t.Errorf("Weight(%d, %d, %d): %d, want %d", e, a, b, got, want)
				}
			}
		}
	}
}

// P5.2: each case of the document, without the table.
func TestWeightCases(t *testing.T) {
	for _, c := range []struct{ e, a, b, want int }{
		{api.Utf, 0xC3, 0xA9, 6},
		{api.Utf, 0xA9, 0xC3, 0},
		{api.Utf, 0xC3, 0xC3, 0},
		{api.Utf, 0xA9, 0xA9, 0},
		{api.Utf, 'a', '.', 2},
		{api.Utf, '~', '\n', 2},
		{api.Utf, 'a', 127, 0},
		{api.Utf, 0, 'a', 0},
		{api.Utf, 'a', 0xC3, 0},
		{api.Utf, 0xA9, 'a', 0},
		{api.Shift, 27, '$', 8},
		{api.Shift, 'a', 27, 8},
		{api.Shift, 27, 27, 8},
		{api.Shift, 27, 0xFF, 8},
		{api.Shift, 0, 27, 8},
		{api.Shift, 'a', '1', 1},
		{api.Shift, 26, 'a', 0},
		{api.Shift, 'a', 28, 0},
		{api.Shift, 'a', 0x80, 0},
		{api.Twin, 0x81, 'a', 4},
		{api.Twin, 0x81, 0x81, 4},
		{api.Twin, 0xBF, 0xC0, 4},
		{api.Twin, 0x81, 0, 0},
		{api.Twin, 0x81, 127, 0},
		{api.Twin, 'a', 0x81, 0},
		{api.Twin, 0xC0, 'a', 0},
		{api.Twin, ' ', '9', 2},
		{api.Latin, 'a', 0xE9, 5},
		{api.Latin, 0xE9, 'Z', 5},
		{api.Latin, 0xE9, 0xE9, -1},
		{api.Latin, 0xE9, ' ', -1},
		{api.Latin, '1', 0xE9, -1},
		{api.Latin, 'a', 0xA9, -1},
		{api.Latin, 'a', 0, -1},
		{api.Latin, 0, 0, -1},
		{api.Latin, 'a', 'b', 2},
		{api.Latin, '.', ' ', 2},
		{api.Low, 'a', 0, 4},
		{api.Low, '~', 127, 4},
		{api.Low, 0, 'a', 0},
		{api.Low, 0, 0, 0},
		{api.Low, 'a', 'b', 0},
		{api.Low, 0xE9, 0, 0},
		{api.High, 0, 'a', 4},
		{api.High, 127, '~', 4},
		{api.High, 'a', 0, 0},
		{api.High, 0, 0, 0},
		{api.High, 'a', 'b', 0},
		{api.High, 0, 0xE9, 0},
	} {
		if got := Weight(c.e, c.a, c.b); got != c.want {
			t.Errorf("Weight(%d, %d, %d): %d, want %d", c.e, c.a, c.b, got, c.want)
		}
	}
}

// P5.2: no pair has a weight in what is not an encoding.
func TestWeightNotEncodings(t *testing.T) {
	for _, e := range notEncodings {
		for a := range 256 {
			for b := range 256 {
				if got := Weight(e, a, b); got != 0 {
					t.Fatalf("Weight(%d, %d, %d): %d", e, a, b, got)
				}
			}
		}
	}
}

// P5.2: numbers that are not bytes end with one of the weights.
func TestWeightNotBytes(t *testing.T) {
	for _, e := range append(notEncodings, encodings...) {
		for _, a := range append(notBytes, 0, 27, 'a', 0x81, 0xFF) {
			for _, b := range notBytes {
				for _, got := range []int{Weight(e, a, b), Weight(e, b, a)} {
					if got < -1 || got > 8 {
						t.Errorf("Weight of %d, %d in %d: %d", a, b, e, got)
					}
				}
			}
		}
	}
}
