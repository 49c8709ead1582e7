package decode

import (
	"math"
	"slices"
	"strings"
	"testing"

	"plumbline/api"
)

var encodings = []int{api.Utf, api.Shift, api.Twin, api.Latin, api.Low, api.High}

var notEncodings = []int{api.None, -1, api.High + 1, 256, 257, 1<<32 + 1, math.MaxInt64, math.MinInt64}

// Bytes on both sides of every border that the document names.
var borders = map[int]string{
	api.Utf:   "a\x7f\x80\x8f\x90\x9f\xa0\xbf\xc0\xc1\xc2\xdf\xe0\xe1\xec\xed\xee\xef\xf0\xf1\xf3\xf4\xf5\xff",
	api.Shift: "\x1b($B\n\x0e\x0f !~\x7f\x80A",
	api.Twin:  "\x00?@~\x7f\x80\x81\x9f\xa0\xa1\xdf\xe0\xfc\xfd\xff",
	api.Latin: "\x00\x7f\x80\x81\x8d\x8f\x90\x9d\x9f\xa0\xff",
	api.Low:   "\x00a\xd7\xd8\xdb\xdc\xdf\xe0\xff",
	api.High:  "\x00a\xd7\xd8\xdb\xdc\xdf\xe0\xff",
}

type sample struct {
	bytes string
	want  []int
}

func checkWhole(t *testing.T, e int, samples []sample) {
	t.Helper()
	for _, c := range samples {
		got, err := Whole(e, c.bytes)
		if err != api.OK || !slices.Equal(got, c.want) {
			t.Errorf("Whole(%d, %q): %v, %d; want %v", e, c.bytes, got, err, c.want)
		}
	}
}

// each calls f with all strings of n bytes out of an alphabet.
func each(alphabet string, n int, f func(s string)) {
	if n == 0 {
		f("")
		return
	}
	each(alphabet, n-1, func(s string) {
		for i := range len(alphabet) {
			f(s + alphabet[i:i+1])
		}
	})
}

// steps returns the state after the bytes and what they output one by one.
func steps(t *testing.T, e int, bytes string) (api.State, []int) {
	t.Helper()
	s, out := api.State{}, []int{}
	for i := range len(bytes) {
		next, part, err := Step(e, s, int(bytes[i]))
		if err != api.OK || !Good(e, next) {
			t.Fatalf("Step(%d, %+v, %d): %+v, error %d", e, s, bytes[i], next, err)
		}
		s, out = next, append(out, part...)
	}
	return s, out
}

// P2.2: sequences of each length at their borders.
func TestUtf(t *testing.T) {
	checkWhole(t, api.Utf, []sample{
		{"", nil},
		{"\x00a\x7f", []int{0, 97, 127}},
		{"\xc2\x80\xdf\xbf", []int{0x80, 0x7FF}},
		{"\xe0\xa0\x80\xed\x9f\xbf\xee\x80\x80\xef\xbf\xbf", []int{0x800, 0xD7FF, 0xE000, 0xFFFF}},
		{"\xf0\x90\x80\x80\xf4\x8f\xbf\xbf", []int{0x10000, 0x10FFFF}},
		{"\xef\xbb\xbf", []int{0xFEFF}},
	})
}

// P2.2: bytes before a missing or forbidden one are one Bad, and that byte is
// read again.
func TestUtfBad(t *testing.T) {
	checkWhole(t, api.Utf, []sample{
		{"\xe2\x82a", []int{-1, 97}},
		{"\x80\xbf\xc0\xc1\xf5\xff", []int{-1, -1, -1, -1, -1, -1}},
		{"\xe0\x9f\x80", []int{-1, -1, -1}},
		{"\xed\xa0\x80", []int{-1, -1, -1}},
		{"\xf0\x8f\x80\x80", []int{-1, -1, -1, -1}},
		{"\xf4\x90\x80\x80", []int{-1, -1, -1, -1}},
		{"\xf0\x9f\x98\xc3\xa9", []int{-1, 0xE9}},
		{"\xf0\x9f\xf0\x9f\x98\x80", []int{-1, 0x1F600}},
		{"\xc3\xc3\xa9", []int{-1, 0xE9}},
		{"\xc2", []int{-1}},
		{"\xe0\xa0", []int{-1}},
		{"\xf0\x90\x80", []int{-1}},
		{"\xc2\xc0", []int{-1, -1}},
	})
}

// P2.2: Go's own decoder agrees wherever all bytes are valid.
func TestUtfEveryCodePoint(t *testing.T) {
	for r := rune(0); r <= 0x10FFFF; r++ {
		if r == 0xD800 {
			r = 0xE000
		}
		got, err := Whole(api.Utf, string(r))
		if err != api.OK || len(got) != 1 || got[0] != int(r) {
			t.Fatalf("%#x: %v, %d", r, got, err)
		}
	}
}

// P2.3: every byte.
func TestLatin(t *testing.T) {
	checkWhole(t, api.Latin, []sample{
		{"", nil},
		{"\x00a\x7f\xa0\xff", []int{0, 97, 127, 160, 255}},
		{"\x80\x82\x8c\x8e\x91\x9c\x9e\x9f", []int{0x2080, 0x2082, 0x208C, 0x208E, 0x2091, 0x209C, 0x209E, 0x209F}},
		{"\x81\x8d\x8f\x90\x9d", []int{-1, -1, -1, -1, -1}},
	})
}

// P2.4: single bytes and the borders of both bytes of a pair.
func TestTwin(t *testing.T) {
	checkWhole(t, api.Twin, []sample{
		{"", nil},
		{"\x00\x7f\xa1\xdf", []int{0, 127, 0xFF61, 0xFF9F}},
		{"\x81\x40\x81\x7e\x81\x80\x81\xfc", []int{0x4E00, 0x4E00 + 62, 0x4E00 + 63, 0x4E00 + 187}},
		{"\x82\x40\x9f\xfc", []int{0x4E00 + 188, 0x4E00 + 30*188 + 187}},
		{"\x81\x81\x81a", []int{0x4E00 + 64, 0x4E00 + 33}},
	})
}

// P2.4: a second byte that fits nothing is read again, unless it is above 127.
func TestTwinBad(t *testing.T) {
	checkWhole(t, api.Twin, []sample{
		{"\x80\xa0\xe0\xff", []int{-1, -1, -1, -1}},
		{"\x81\x3f", []int{-1, 63}},
		{"\x81\x7f", []int{-1, 127}},
		{"\x81\xfd\x81\xfe\x81\xff", []int{-1, -1, -1}},
		{"\x81\xfd\x40", []int{-1, 64}},
		{"\x81\x00\x81", []int{-1, 0, -1}},
		{"\x9f", []int{-1}},
	})
}

// P2.5: units and pairs, with the bytes in both orders.
func TestWide(t *testing.T) {
	for _, c := range []sample{
		{"", nil},
		{"\x00\x00\x00a\xff\xfe", []int{0, 97, 0xFFFE}},
		{"\xd7\xff\xe0\x00", []int{0xD7FF, 0xE000}},
		{"\xd8\x00\xdc\x00\xdb\xff\xdf\xff", []int{0x10000, 0x10FFFF}},
		{"\xd8\x3d\xde\x00\xd8\x00\xdf\xff", []int{0x1F600, 0x103FF}},
		{"\xdb\xff\xdc\x00", []int{0x10FC00}},
		{"\xdc\x00\xdf\xff", []int{-1, -1}},
		{"\xdc\x00\xd8\x00", []int{-1, -1}},
		{"\xd8\x00\x00a", []int{-1, 97}},
		{"\xd8\x00\xe0\x00", []int{-1, 0xE000}},
		{"\xd8\x00\xdb\xff\xdc\x00", []int{-1, 0x10FC00}},
		{"\xd8\x00\xd8\x00", []int{-1, -1}},
		{"\xd8\x00\xdc\x00\xdc\x00", []int{0x10000, -1}},
		{"\xd8\x00", []int{-1}},
	} {
		checkWhole(t, api.High, []sample{c})
		swapped := []byte(c.bytes)
		for i := 0; i < len(swapped); i += 2 {
			swapped[i], swapped[i+1] = swapped[i+1], swapped[i]
		}
		checkWhole(t, api.Low, []sample{{string(swapped), c.want}})
	}
}

// P2.5: bytes at the end that are no unit, with and without a half before.
func TestWideEnd(t *testing.T) {
	checkWhole(t, api.Low, []sample{
		{"a", []int{-1}},
		{"\xd8", []int{-1}},
		{"\xdc", []int{-1}},
		{"a\x00b", []int{97, -1}},
		{"\x00\xd8a", []int{-1}},
		{"\x00\xd8\xdc", []int{-1}},
		{"\x00\xd8\x00\xd8a", []int{-1, -1}},
		{"\x00\xdca", []int{-1, -1}},
	})
	checkWhole(t, api.High, []sample{
		{"a", []int{-1}},
		{"\xd8", []int{-1}},
		{"\xdc", []int{-1}},
		{"\x00ab", []int{97, -1}},
		{"\xd8\x00a", []int{-1}},
		{"\xd8\x00\xd8", []int{-1}},
		{"\xd8\x00\xdc", []int{-1}},
		{"\xd8\x00\xd8\x00a", []int{-1, -1}},
		{"\xdc\x00a", []int{-1, -1}},
		{"\xdc\x00\xdc", []int{-1, -1}},
	})
}

// P2.6: escape sequences, what only begins like one, and single mode.
func TestShiftSingle(t *testing.T) {
	checkWhole(t, api.Shift, []sample{
		{"", nil},
		{"\x00\na(B$B\x7f", []int{0, 10, 97, 40, 66, 36, 66, 127}},
		{"\x0d\x0e\x0f\x10\x80\xff", []int{13, -1, -1, 16, -1, -1}},
		{"\x1b(B", nil},
		{"\x1b$B", nil},
		{"\x1b(Ba\x1b$B!!\x1b(Ba", []int{97, 0x3000, 97}},
		{"\x1b", []int{-1}},
		{"\x1b(", []int{-1, 40}},
		{"\x1b$", []int{-1, 36}},
		{"\x1bB", []int{-1, 66}},
		{"\x1b(A\x1b$b", []int{-1, 40, 65, -1, 36, 98}},
		{"\x1b\x1b$B!!", []int{-1, 0x3000}},
		{"\x1b(\x1b$B!!", []int{-1, 40, 0x3000}},
		{"\x1b(\x80\x1b\x0e", []int{-1, 40, -1, -1, -1}},
	})
}

// P2.7: double mode, up to its end by an escape sequence or a byte 10.
func TestShiftDouble(t *testing.T) {
	checkWhole(t, api.Shift, []sample{
		{"\x1b$B!!!~~!~~", []int{0x3000, 0x3000 + 93, 0x3000 + 93*94, 0x3000 + 93*94 + 93}},
		{"\x1b$B\na", []int{10, 97}},
		{"\x1b$B\n\x1b$B!!\n!", []int{10, 0x3000, 10, 33}},
		{"\x1b$B\x1b$B!!", []int{0x3000}},
		{"\x1b$B!\x1b$B!!", []int{-1, 0x3000}},
		{"\x1b$B!\x1b!!", []int{-1, -1, 0x3000}},
		{"\x1b$B!", []int{-1}},
		{"\x1b$B!\x1b", []int{-1, -1}},
		{"\x1b$B! !\x7f!\x80!\n!\x0e!!", []int{-1, -1, -1, -1, -1, 0x3000}},
		{"\x1b$B \x7f\x80\xff\x00\x0d\x0e\x0f!!", []int{-1, -1, -1, -1, -1, -1, -1, -1, 0x3000}},
		{"\x1b$B\x1b(", []int{-1, -1}},
		{"\x1b$B\x1b$", []int{-1, -1}},
		{"\x1b$B\x1b(!", []int{-1, 0x3000 + 7*94}},
		{"\x1b$B\x1b( !!", []int{-1, -1, 0x3000}},
		{"\x1b$B\x1b(\n!!", []int{-1, -1, 0x3000}},
		{"\x1b$B\x1b(\x1b(B!", []int{-1, -1, 33}},
		{"\x1b$B\x1b\n!", []int{-1, 10, 33}},
	})
}

// P2.2 to P2.7: all strings of up to two bytes.
func TestEveryPairOfBytes(t *testing.T) {
	for _, e := range encodings {
		for _, before := range []string{"", "\x1b$B", "\xd8\x00", "\x00\xd8"} {
			for i := range 1 << 16 {
				bytes := before + string([]byte{byte(i >> 8), byte(i)})
				if got, err := Whole(e, bytes); err != api.OK || !slices.Equal(got, oracle(e, bytes)) {
					t.Fatalf("Whole(%d, %q): %v, %d; want %v", e, bytes, got, err, oracle(e, bytes))
				}
			}
		}
		for b := range 256 {
			bytes := string([]byte{byte(b)})
			if got, err := Whole(e, bytes); err != api.OK || !slices.Equal(got, oracle(e, bytes)) {
				t.Fatalf("Whole(%d, %q): %v, %d; want %v", e, bytes, got, err, oracle(e, bytes))
			}
		}
	}
}

// P2.1 to P2.7: all short strings of bytes at the borders, at once, byte by
// byte and in two parts.
func TestEveryStringOfBorders(t *testing.T) {
	for _, e := range encodings {
		for n := range 5 {
			each(borders[e], n, func(bytes string) {
				checkParts(t, e, bytes)
				if e == api.Shift {
					checkParts(t, e, "\x1b$B"+bytes)
				}
			})
		}
	}
}

func checkParts(t *testing.T, e int, bytes string) {
	t.Helper()
	want := oracle(e, bytes)
	got, err := Whole(e, bytes)
	if err != api.OK || !slices.Equal(got, want) {
		t.Fatalf("Whole(%d, %q): %v, %d; want %v", e, bytes, got, err, want)
	}
	last, out := steps(t, e, bytes)
	end, err := End(e, last)
	if err != api.OK || len(end) > 2 || !slices.Equal(append(out, end...), want) {
		t.Fatalf("Step for %d, %q: %v and at the end %v, %d; want %v", e, bytes, out, end, err, want)
	}
	for k := range len(bytes) + 1 {
		s, a, err1 := Feed(e, api.State{}, bytes[:k])
		s, b, err2 := Feed(e, s, bytes[k:])
		if err1 != api.OK || err2 != api.OK || s != last || !slices.Equal(append(a, b...), out) {
			t.Fatalf("Feed for %d, %q at %d: %+v, %v, %v; want %+v, %v", e, bytes, k, s, a, b, last, out)
		}
	}
}

// P2.1: what is output after some bytes is exactly what all their
// continuations have in common.
func TestOutputAsSoonAsCertain(t *testing.T) {
	few := map[int]string{
		api.Utf:   "a\x80\x90\xa0\xc2\xe0\xed\xf0\xf4\xff",
		api.Shift: "\x1b($B\n!",
		api.Twin:  "a\x7f\x81\xa1\xff",
		api.Latin: "a\x80\x81\xff",
		api.Low:   "\x00\x01\xd8\xdc",
		api.High:  "\x00\x01\xd8\xdc",
	}
	for _, e := range encodings {
		longest := 4
		if e == api.Utf {
			longest = 3
		}
		for n := range longest + 1 {
			each(few[e], n, func(bytes string) {
				checkCertain(t, e, few[e], bytes)
				if e == api.Shift {
					checkCertain(t, e, few[e], "\x1b$B"+bytes)
				}
			})
		}
	}
}

func checkCertain(t *testing.T, e int, alphabet, bytes string) {
	t.Helper()
	common := oracle(e, bytes)
	for n := 1; n <= 3; n++ {
		each(alphabet, n, func(more string) {
			if len(common) > 0 {
				common = commonStart(common, oracle(e, bytes+more))
			}
		})
	}
	if _, out := steps(t, e, bytes); !slices.Equal(out, common) {
		t.Fatalf("%d, %q: %v is output, but %v is certain", e, bytes, out, common)
	}
}

func commonStart(a, b []int) []int {
	n := 0
	for n < len(a) && n < len(b) && a[n] == b[n] {
		n++
	}
	return a[:n]
}

// P2.1: outputs byte by byte, where what is certain is easily missed.
func TestOutputByteByByte(t *testing.T) {
	for _, c := range []struct {
		e     int
		bytes string
		want  [][]int
		end   []int
	}{
		{api.Utf, "\xe2\x82a\xf5", [][]int{nil, nil, {-1, 97}, {-1}}, nil},
		{api.Utf, "\xf0\x9f\x98", [][]int{nil, nil, nil}, []int{-1}},
		{api.Twin, "\x81\x7f\x81\xff\x81", [][]int{nil, {-1, 127}, nil, {-1}, nil}, []int{-1}},
		{api.Low, "\x00\xd8\x00\xd8\x00", [][]int{nil, nil, nil, {-1}, nil}, []int{-1}},
		{api.Low, "\x00\xdc", [][]int{nil, {-1}}, nil},
		{api.High, "\xd8\x00\x00\x61", [][]int{nil, nil, {-1}, {97}}, nil},
		{api.High, "\xd8\x00\xd8\x00\xdc", [][]int{nil, nil, {-1}, nil, nil}, []int{-1}},
		{api.High, "\xd8\x00\x00", [][]int{nil, nil, {-1}}, nil},
		{api.High, "\xdc\x00\xdc", [][]int{{-1}, nil, {-1}}, nil},
		{api.Shift, "\x1b(\x1b(x", [][]int{nil, nil, {-1, 40}, nil, {-1, 40, 120}}, nil},
		{api.Shift, "\x1b$B!\x1b(", [][]int{nil, nil, nil, nil, {-1}, nil}, []int{-1, -1}},
	} {
		s := api.State{}
		for i := range len(c.bytes) {
			next, out, err := Step(c.e, s, int(c.bytes[i]))
			if err != api.OK || !slices.Equal(out, c.want[i]) {
				t.Errorf("%d, %q, byte %d: %v, %d; want %v", c.e, c.bytes, i, out, err, c.want[i])
			}
			s = next
		}
		if out, err := End(c.e, s); err != api.OK || !slices.Equal(out, c.end) {
			t.Errorf("%d, %q, end: %v, %d; want %v", c.e, c.bytes, out, err, c.end)
		}
	}
}

// P2.1: a step and a feed without bytes start from the zero state.
func TestZeroState(t *testing.T) {
	for _, e := range encodings {
		if !Good(e, api.State{}) {
			t.Errorf("%d: the zero state is not valid", e)
		}
		if s, out, err := Feed(e, api.State{}, ""); s != (api.State{}) || len(out) != 0 || err != api.OK {
			t.Errorf("%d: Feed of nothing: %+v, %v, %d", e, s, out, err)
		}
		if out, err := End(e, api.State{}); len(out) != 0 || err != api.OK {
			t.Errorf("%d: End at the beginning: %v, %d", e, out, err)
		}
	}
}

// P2.1: ErrKind comes before all other errors.
func TestErrKind(t *testing.T) {
	long := strings.Repeat("a", api.MaxBytes+1)
	for _, e := range notEncodings {
		for _, s := range []api.State{{}, {Need: -7, Kept: "abc"}} {
			if got, out, err := Step(e, s, 256); got != s || len(out) != 0 || err != api.ErrKind {
				t.Errorf("Step(%d): %+v, %v, %d", e, got, out, err)
			}
			if got, out, err := Feed(e, s, long); got != s || len(out) != 0 || err != api.ErrKind {
				t.Errorf("Feed(%d): %+v, %v, %d", e, got, out, err)
			}
			if out, err := End(e, s); len(out) != 0 || err != api.ErrKind {
				t.Errorf("End(%d): %v, %d", e, out, err)
			}
			if Good(e, s) {
				t.Errorf("Good(%d, %+v)", e, s)
			}
		}
		for _, bytes := range []string{"", "a", long} {
			if out, err := Whole(e, bytes); len(out) != 0 || err != api.ErrKind {
				t.Errorf("Whole(%d): %v, %d", e, out, err)
			}
		}
	}
}

// P2.1: the limit is on the bytes of a call, and comes before the state.
func TestErrLong(t *testing.T) {
	full := strings.Repeat("a", api.MaxBytes)
	for _, e := range encodings {
		if out, err := Whole(e, full); err != api.OK || !slices.Equal(out, oracle(e, full)) {
			t.Errorf("Whole(%d) at the limit: %d", e, err)
		}
		if out, err := Whole(e, full+"a"); len(out) != 0 || err != api.ErrLong {
			t.Errorf("Whole(%d) above the limit: %v, %d", e, out, err)
		}
		s, first, err1 := Feed(e, api.State{}, full)
		s, second, err2 := Feed(e, s, full)
		if err1 != api.OK || err2 != api.OK || !slices.Equal(append(first, second...), oracle(e, full+full)) {
			t.Errorf("Feed(%d) at the limit, twice: %d, %d", e, err1, err2)
		}
		for _, s := range []api.State{s, {Need: -7, Kept: "abc"}} {
			if got, out, err := Feed(e, s, full+"a"); got != s || len(out) != 0 || err != api.ErrLong {
				t.Errorf("Feed(%d) above the limit: %+v, %v, %d", e, got, out, err)
			}
		}
	}
}

// P2.1: numbers that are no bytes, in states that are valid.
func TestStepNoByte(t *testing.T) {
	for _, e := range encodings {
		for _, bytes := range []string{"", "\xe2", "\x81", "\xd8\x00", "\x00\xd8", "\x1b$B!", "\x1b("} {
			s, _ := steps(t, e, bytes)
			for _, b := range []int{-1, 256, 256 + 97, 1<<32 + 97, math.MaxInt64, math.MinInt64} {
				if got, out, err := Step(e, s, b); got != s || len(out) != 0 || err != api.ErrForm {
					t.Errorf("Step(%d, %+v, %d): %+v, %v, %d", e, s, b, got, out, err)
				}
			}
		}
	}
}

// P2.1: any state at all is either refused by every function or accepted by
// every one, and accepted states lead to accepted ones.
func TestAnyState(t *testing.T) {
	numbers := []int{0, 1, 2, 3, 4, -1, 0x0D, 0x80, 0xBF, 0x360, 0xD800, 0xDBFF, 0xDC00, math.MaxInt64, math.MinInt64}
	kept := []string{"", "!", "~", "\n", "\x00", "\x7f", "\x80", "\x81", "\x9f", "\xd8", "\xdc", "\x1b", "\x1b(", "\x1b$", "\x1b(B", "\x1b!", "!!", "\xd8\x00", strings.Repeat("!", 5000)}
	for _, e := range encodings {
		for _, n := range numbers {
			for _, m := range numbers {
				for _, s := range []api.State{
					{Need: n, Code: m, From: 0x80, To: 0xBF},
					{Need: n, Code: m, From: 0xA0, To: 0xBF},
					{Need: n, Code: m, From: 0x80, To: 0x9F},
					{Need: n, Code: m},
					{From: n, To: m},
				} {
					checkState(t, e, s)
				}
				for _, k := range kept {
					checkState(t, e, api.State{Kept: k, Half: n, Mode: m})
					checkState(t, e, api.State{Kept: k, Need: n, Mode: m})
					checkState(t, e, api.State{Kept: k, Half: n, Code: m})
				}
			}
		}
	}
}

func checkState(t *testing.T, e int, s api.State) {
	t.Helper()
	good := Good(e, s)
	if end, err := End(e, s); (err == api.OK) != good || len(end) > 2 || !good && (len(end) > 0 || err != api.ErrForm) {
		t.Fatalf("End(%d, %+v): %v, %d; the state is valid: %v", e, s, end, err, good)
	}
	if next, out, err := Feed(e, s, "a\x81\x1b"); !goodReply(e, s, next, out, err) {
		t.Fatalf("Feed(%d, %+v): %+v, %v, %d; the state is valid: %v", e, s, next, out, err, good)
	}
	for b := 0; b < 256; b += 1 + b%3 {
		if next, out, err := Step(e, s, b); !goodReply(e, s, next, out, err) {
			t.Fatalf("Step(%d, %+v, %d): %+v, %v, %d; the state is valid: %v", e, s, b, next, out, err, good)
		}
	}
}

func goodReply(e int, s, next api.State, out []int, err api.Errno) bool {
	if Good(e, s) {
		return err == api.OK && Good(e, next)
	}
	return err == api.ErrForm && next == s && len(out) == 0
}

// P2.1: states to which no bytes lead are not valid in this program.
func TestGoodRefuses(t *testing.T) {
	for e, states := range map[int][]api.State{
		api.Utf: {
			{Need: 1, Code: 1, From: 0x80, To: 0xBF},
			{Need: 1, Code: 0x360, From: 0x80, To: 0xBF},
			{Need: 1, Code: 0x37F, From: 0x80, To: 0xBF},
			{Need: 1, Code: 0x4400, From: 0x80, To: 0xBF},
			{Need: 2, Code: 0x110, From: 0x80, To: 0xBF},
			{Need: 2, Code: 0, From: 0x80, To: 0xBF},
			{Need: 3, Code: 5, From: 0x80, To: 0xBF},
			{Need: 4, Code: 1, From: 0x80, To: 0xBF},
			{Need: 1, Code: 2, From: 0x80, To: 0xBF, Kept: "\xc2"},
		},
		api.Shift: {{Kept: "!"}, {Kept: "!!", Mode: double}, {Kept: " ", Mode: double}, {Kept: "\x1b(B"}, {Mode: 2}, {Half: 1}},
		api.Twin:  {{Kept: "a"}, {Kept: "\x80"}, {Kept: "\xa0"}, {Kept: "\x81\x81"}, {Kept: "\x81", Mode: 1}},
		api.Latin: {{Kept: "a"}, {Need: 1}, {Mode: 1}},
		api.Low:   {{Kept: "ab"}, {Half: 0xD7FF}, {Half: 0xDC00}, {Kept: "a", Mode: told}, {Half: 0xD800, Need: 1}},
		api.High: {
			{Kept: "ab"}, {Half: 0xD7FF}, {Half: 0xDC00}, {Mode: told}, {Kept: "ab", Mode: told},
			{Kept: "\xdc"}, {Kept: "a", Half: 0xD800}, {Kept: "\xdc", Half: 0xD800, Mode: told}, {Kept: "a", Need: 1},
		},
	} {
		for _, s := range states {
			if Good(e, s) {
				t.Errorf("Good(%d, %+v)", e, s)
			}
		}
	}
}

// P2.1: results share no memory with each other.
func TestResultsAreNew(t *testing.T) {
	for _, e := range encodings {
		for _, bytes := range []string{"a\x80\xff\x1b", "\x81"} {
			first, _ := Whole(e, bytes)
			for i := range first {
				first[i] = 7
			}
			if second, _ := Whole(e, bytes); !slices.Equal(second, oracle(e, bytes)) {
				t.Errorf("%d, %q: %v", e, bytes, second)
			}
		}
	}
}
