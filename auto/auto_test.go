package auto

import (
	"math"
	"slices"
	"strings"
	"testing"

	"plumbline/api"
	"plumbline/decode"
)

var encodings = []int{api.Utf, api.Shift, api.Twin, api.Latin, api.Low, api.High}

var notEncodings = []int{api.None, -1, api.High + 1, api.Never, 256, 257, 1<<32 + 1, math.MaxInt64, math.MinInt64}

var notBytes = []int{-1, 256, 256 + 'a', 1<<32 + 'a', math.MaxInt64, math.MinInt64}

// Bytes on both sides of every border that the document names.
var borders = map[int]string{
	api.Utf:   "a\x7f\x80\x8f\x90\x9f\xa0\xbf\xc0\xc1\xc2\xdf\xe0\xe1\xec\xed\xee\xef\xf0\xf1\xf3\xf4\xf5\xff",
	api.Shift: "\x1b($B\n\x0e\x0f !~\x7f\x80A",
	api.Twin:  "\x00?@~\x7f\x80\x81\x9f\xa0\xa1\xdf\xe0\xfc\xfd\xff",
	api.Latin: "\x00\x7f\x80\x81\x8d\x8f\x90\x9d\x9f\xa0\xff",
	api.Low:   "\x00a\xd7\xd8\xdb\xdc\xdf\xe0\xff",
	api.High:  "\x00a\xd7\xd8\xdb\xdc\xdf\xe0\xff",
}

// valid is Accepts as the document defines it, by decoding.
func valid(t *testing.T, e int, bytes string) bool {
	t.Helper()
	out, err := decode.Whole(e, bytes)
	if err != api.OK {
		t.Fatalf("Whole(%d, %q): error %d", e, bytes, err)
	}
	return !slices.Contains(out, api.Bad)
}

// run returns the state after the bytes.
func run(e int, bytes string) int {
	s := 0
	for i := range len(bytes) {
		s = Step(e, s, int(bytes[i]))
	}
	return s
}

// reached returns, for each state but Never that bytes lead to, bytes that do.
func reached(e int) map[int]string {
	found := map[int]string{0: ""}
	for list := []int{0}; len(list) > 0; list = list[1:] {
		for b := range 256 {
			next := Step(e, list[0], b)
			if _, known := found[next]; next != api.Never && !known {
				found[next] = found[list[0]] + string([]byte{byte(b)})
				list = append(list, next)
			}
		}
	}
	return found
}

// each calls f with all strings of n bytes out of an alphabet.
func each(alphabet string, n int, f func(s string)) {
	if n == 0 {
		f("")
		return
	}
	each(alphabet, n-1, func(s string) {
		for i := range len(alphabet) {
			f(s + alphabet[i:i+1])
		}
	})
}

// check compares Accepts, and Ends in the state that the bytes lead to, with
// decoding.
func check(t *testing.T, e int, bytes string) {
	t.Helper()
	want := valid(t, e, bytes)
	if Accepts(e, bytes) != want {
		t.Fatalf("Accepts(%d, %q) is not %v", e, bytes, want)
	}
	if s := run(e, bytes); Ends(e, s) != want {
		t.Fatalf("Ends(%d, %d), after %q, is not %v", e, s, bytes, want)
	}
}

// P3.1: bytes that are valid, and bytes that are not, at the borders of each
// encoding.
func TestAccepts(t *testing.T) {
	for _, c := range []struct {
		e         int
		good, bad []string
	}{
		{
			api.Utf,
			[]string{"", "\x00\x7f", "\xc2\x80\xdf\xbf", "\xe0\xa0\x80", "\xe1\x80\x80", "\xec\xbf\xbf", "\xed\x9f\xbf", "\xee\x80\x80", "\xef\xbf\xbf", "\xf0\x90\x80\x80", "\xf1\x80\x80\x80", "\xf3\xbf\xbf\xbf", "\xf4\x8f\xbf\xbf", "\xef\xbb\xbfa"},
			[]string{"\x80", "\xbf", "\xc0\x80", "\xc1\xbf", "\xc2", "\xc2a", "\xc2\xc0", "\xe0\x9f\xbf", "\xe0\xa0", "\xed\xa0\x80", "\xe1\x80a", "\xf0\x8f\xbf\xbf", "\xf0\x90\x80", "\xf4\x90\x80\x80", "\xf5\x80\x80\x80", "\xff", "a\xffa"},
		},
		{
			api.Shift,
			[]string{"", "\x00\r\x10~\x7f", "(B$B", "\x1b(B", "\x1b$B", "\x1b$B!!~~", "\x1b$B!!\x1b(Ba", "\x1b$B\na", "\x1b$B\x1b$B!!", "\x1b(B\x1b(B\x7f", "\x1b$B($"},
			[]string{"\x0e", "\x0f", "\x80", "\xff", "\x1b", "\x1b(", "\x1b$", "\x1b\x1b(B", "\x1b(A", "\x1b$A", "\x1bB", "\x1b$B!", "\x1b$B!\x1b(B", "\x1b$B!\n", "\x1b$B ", "\x1b$B\x7f", "\x1b$B! ", "\x1b$B!\x7f", "\x1b$B\x1b", "\x1b$B\x1b(", "\x1b$B\x1b!", "\x1b$B\n\x0e"},
		},
		{
			api.Twin,
			[]string{"", "\x00\x7f", "\xa1\xdf", "\x81\x40\x81\x7e\x81\x80\x81\xfc", "\x9f\x40", "\x81\x81a"},
			[]string{"\x80", "\xa0", "\xe0", "\xff", "\x81", "\x9f", "\x81\x3f", "\x81\x7f", "\x81\xfd", "\x81\xff", "\x81\x81\x81"},
		},
		{
			api.Latin,
			[]string{"", "\x00\x7f\x80\xa0\xff", "\x82\x8c\x8e\x91\x9c\x9e\x9f"},
			[]string{"\x81", "\x8d", "\x8f", "\x90", "\x9d", "a\x9da"},
		},
		{
			api.Low,
			[]string{"", "a\x00", "\xff\xd7\x00\xe0\xff\xff", "\x00\xd8\x00\xdc", "\xff\xdb\xff\xdf", "\xd8\x00\xdc\x00"},
			[]string{"a", "a\x00a", "\x00\xdc", "\xff\xdf", "\x00\xd8", "\x00\xd8\x00", "\x00\xd8\xff\xdb", "\x00\xd8\x00\xe0", "\x00\xd8a\x00", "\x00\xd8\x00\xdc\x00\xdc"},
		},
		{
			api.High,
			[]string{"", "\x00a", "\xd7\xff\xe0\x00\xff\xff", "\xd8\x00\xdc\x00", "\xdb\xff\xdf\xff", "\x00\xd8\x00\xdc"},
			[]string{"a", "\x00aa", "\xdc\x00", "\xdf\xff", "\xd8\x00", "\xd8\x00\xdc", "\xd8\x00\xdb\xff", "\xd8\x00\xe0\x00", "\xd8\x00\x00a", "\xd8\x00\xdc\x00\xdc\x00"},
		},
	} {
		for _, bytes := range c.good {
			if !Accepts(c.e, bytes) {
				t.Errorf("Accepts(%d, %q) is false", c.e, bytes)
			}
		}
		for _, bytes := range c.bad {
			if Accepts(c.e, bytes) {
				t.Errorf("Accepts(%d, %q) is true", c.e, bytes)
			}
		}
	}
}

// P3.1: nothing is valid in what is not an encoding, not even no bytes.
func TestNotEncodings(t *testing.T) {
	for _, e := range notEncodings {
		for _, bytes := range []string{"", "a", "a\x00", "\x1b$B!!"} {
			if Accepts(e, bytes) {
				t.Errorf("Accepts(%d, %q)", e, bytes)
			}
		}
		for s := -1; s <= api.Never+1; s++ {
			if Ends(e, s) {
				t.Errorf("Ends(%d, %d)", e, s)
			}
			for b := range 256 {
				if got := Step(e, s, b); got != api.Never {
					t.Errorf("Step(%d, %d, %d): %d", e, s, b, got)
				}
			}
		}
	}
}

// P3.1: Accepts and Ends agree with decoding for all strings of up to two
// bytes, in every state.
func TestEveryPairOfBytes(t *testing.T) {
	for _, e := range encodings {
		for _, before := range reached(e) {
			check(t, e, before)
			for b := range 256 {
				check(t, e, before+string([]byte{byte(b)}))
			}
			for i := range 1 << 16 {
				check(t, e, before+string([]byte{byte(i >> 8), byte(i)}))
			}
		}
	}
}

// P3.1: the same for all short strings of bytes at the borders, also in double
// mode.
func TestEveryStringOfBorders(t *testing.T) {
	for _, e := range encodings {
		for n := range 5 {
			each(borders[e], n, func(bytes string) {
				check(t, e, bytes)
				if e == api.Shift {
					check(t, e, "\x1b$B"+bytes)
				}
			})
		}
	}
}

// P3.1: Accepts has no limit on the number of bytes.
func TestAcceptsLong(t *testing.T) {
	for _, e := range encodings {
		for _, n := range []int{api.MaxBytes, api.MaxBytes + 2, 100 * api.MaxBytes} {
			long := strings.Repeat("a", n)
			if !Accepts(e, long) {
				t.Errorf("%d: %d bytes are not accepted", e, n)
			}
			for _, tail := range []string{"\x81", "\xd8", "\xdc"} {
				want := valid(t, e, tail)
				if Accepts(e, long+tail) != want {
					t.Errorf("%d: %d bytes and %q: not %v", e, n, tail, want)
				}
			}
		}
	}
}

// P3.1: the states are 0, where the bytes begin, others up to 8, and Never.
func TestStates(t *testing.T) {
	for _, e := range encodings {
		if !Ends(e, 0) {
			t.Errorf("Ends(%d, 0) is false", e)
		}
		for s, bytes := range reached(e) {
			if s < 0 || s > 8 {
				t.Errorf("%d: %q leads to the state %d", e, bytes, s)
			}
		}
	}
}

// P3.1: no byte leads away from Never, and Never is no end.
func TestNever(t *testing.T) {
	for _, e := range encodings {
		for b := range 256 {
			if got := Step(e, api.Never, b); got != api.Never {
				t.Errorf("Step(%d, Never, %d): %d", e, b, got)
			}
		}
		if Ends(e, api.Never) {
			t.Errorf("Ends(%d, Never)", e)
		}
	}
}

// P3.1: a number that is not a state of the encoding leads to Never, and is no
// end, even if it is a state of another encoding.
func TestNotStates(t *testing.T) {
	numbers := []int{256, 1 << 32, 1<<32 + 1, math.MaxInt64, math.MinInt64}
	for s := -20; s <= 20; s++ {
		numbers = append(numbers, s)
	}
	for _, e := range encodings {
		states := reached(e)
		for _, s := range numbers {
			if _, known := states[s]; known {
				continue
			}
			if Ends(e, s) {
				t.Errorf("Ends(%d, %d)", e, s)
			}
			for b := range 256 {
				if got := Step(e, s, b); got != api.Never {
					t.Errorf("Step(%d, %d, %d): %d", e, s, b, got)
				}
			}
		}
	}
}

// P3.1: a number that is not a byte leads to Never, in every state.
func TestNotBytes(t *testing.T) {
	for _, e := range append(notEncodings, encodings...) {
		for s := -1; s <= api.Never+1; s++ {
			for _, b := range notBytes {
				if got := Step(e, s, b); got != api.Never {
					t.Errorf("Step(%d, %d, %d): %d", e, s, b, got)
				}
			}
		}
	}
}

// P3.1: from every state but Never some bytes lead to an end, so that Never is
// reached with the first byte that makes the bytes invalid for good.
func TestNeverAtOnce(t *testing.T) {
	for _, e := range encodings {
		for s, bytes := range reached(e) {
			if !canEnd(e, s, 3) {
				t.Errorf("%d: nothing completes %q, which leads to the state %d", e, bytes, s)
			}
		}
	}
}

func canEnd(e, s, bytes int) bool {
	if Ends(e, s) {
		return true
	}
	for b := 0; bytes > 0 && b < 256; b++ {
		if canEnd(e, Step(e, s, b), bytes-1) {
			return true
		}
	}
	return false
}
