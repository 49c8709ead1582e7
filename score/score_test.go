package score

import (
	"math"
	"strings"
	"testing"

	"plumbline/api"
	"plumbline/auto"
)

// sum is the score of an encoding as the document defines it.
func sum(e int, bytes string) int {
	total := 0
	for i := 1; i < len(bytes); i++ {
		total += wantWeight(e, int(bytes[i-1]), int(bytes[i]))
	}
	return total
}

// wantWhole is P5.3 word for word.
func wantWhole(bytes string) int {
	best, most := api.None, math.MinInt64
	for _, e := range encodings {
		if score := sum(e, bytes); auto.Accepts(e, bytes) && score > most {
			best, most = e, score
		}
	}
	return best
}

// steps returns the scores of the bytes by New and Step.
func steps(bytes string) [api.High + 1]api.Score {
	l, last := New(), -1
	for i := range len(bytes) {
		l = Step(l, last, int(bytes[i]))
		last = int(bytes[i])
	}
	return l
}

// check compares Whole, and Best of the steps, with the document.
func check(t *testing.T, bytes string, want int) {
	t.Helper()
	if got := Whole(bytes); got != want {
		t.Errorf("Whole(%.60q): %d, want %d", bytes, got, want)
	}
	if got := Best(steps(bytes)); got != want {
		t.Errorf("Best of %.60q: %d, want %d", bytes, got, want)
	}
}

// each calls f with all strings of n bytes out of an alphabet.
func each(alphabet string, n int, f func(s string)) {
	if n == 0 {
		f("")
		return
	}
	each(alphabet, n-1, func(s string) {
		for i := range len(alphabet) {
			f(s + alphabet[i:i+1])
		}
	})
}

// random calls f with strings of 1 to n bytes out of an alphabet, the same
// ones in every run.
func random(alphabet string, count, n int, f func(s string)) {
	seed := uint32(5)
	pick := func(n int) int {
		seed = seed*1664525 + 1013904223
		return int(seed>>8) % n
	}
	for range count {
		s := make([]byte, 1+pick(n))
		for i := range s {
			s[i] = alphabet[pick(len(alphabet))]
		}
		f(string(s))
	}
}

// P5.3: ordinary bytes of every encoding.
func TestWhole(t *testing.T) {
	for s, want := range map[string]int{
		"plain text":            api.Utf,
		"caf\xc3\xa9":           api.Utf,
		"\xe2\x82\xac":          api.Utf,
		"\xd8\x90":              api.Utf,
		"\x1b$B!!\x1b(B":        api.Shift,
		"text \x1b$B!!":         api.Shift,
		"a\x81\x40b\x82\x41c":   api.Twin,
		"\x81\x40":              api.Twin,
		"caf\xe9 a":             api.Latin,
		"na\xefve":              api.Latin,
		"a\x00b\x00c\x00":       api.Low,
		"\x00\xd8\x00\xdca\x00": api.Low,
		"\x00a\x00b\x00c":       api.High,
		"\xd8\x00\xdc\x00\x00a": api.High,
	} {
		check(t, s, want)
	}
}

// P5.3: no bytes, and single ones.
func TestWholeShort(t *testing.T) {
	for s, want := range map[string]int{
		"":     api.Utf,
		"a":    api.Utf,
		"\x00": api.Utf,
		"\x1b": api.Utf,
		"\x7f": api.Utf,
		"\x80": api.Latin,
		"\xa1": api.Twin,
		"\xdf": api.Twin,
		"\xe0": api.Latin,
		"\xff": api.Latin,
	} {
		check(t, s, want)
	}
}

// P5.3: bytes that no encoding accepts.
func TestWholeNone(t *testing.T) {
	for _, s := range []string{
		"\x81", "\x8d", "\x8f", "\x90", "\x9d", "\x81\xff\x80", "\xff\x81a", "a\x9d ",
		"\x81\xd8\xd8\x81", "plain text\xff\x8d.", strings.Repeat("a", 1000) + "\x8d",
	} {
		check(t, s, api.None)
	}
}

// P5.3: encodings with the same score.
func TestWholeEqual(t *testing.T) {
	for _, c := range []struct {
		bytes string
		equal []int
	}{
		{"", []int{api.Utf, api.Shift, api.Twin, api.Latin, api.Low, api.High}},
		{"a", []int{api.Utf, api.Shift, api.Twin, api.Latin}},
		{"abc", []int{api.Utf, api.Twin, api.Latin}},
		{"\x00\x00", []int{api.Utf, api.Shift, api.Twin, api.Low, api.High}},
		{"\xa1", []int{api.Twin, api.Latin}},
		{"a\xd0\xd0\xd0\xd0\xd0\xd0", []int{api.Twin, api.Latin}},
		{"\x1b$B!", []int{api.Utf, api.Twin, api.High}},
		{"\xe9\xe9", []int{api.Low, api.High}},
	} {
		for _, e := range c.equal {
			if !auto.Accepts(e, c.bytes) || sum(e, c.bytes) != sum(c.equal[0], c.bytes) {
				t.Errorf("%q has another score in %d, or is not valid", c.bytes, e)
			}
		}
		check(t, c.bytes, c.equal[0])
	}
}

// P5.3: scores that are not greater than 0.
func TestWholeNegative(t *testing.T) {
	for s, want := range map[string]int{
		"\xe9\xe9\xe9":                     api.Latin, // -2, and no other is valid
		"\xe9.\xe9":                        api.Latin,
		strings.Repeat("\xe9.", 999) + ".": api.Latin,
		"\xe9.":                            api.Low, // 0 is greater than -1
		"\xff\xdf":                         api.High,
	} {
		check(t, s, want)
	}
}

// P5.3: the greatest score does not count if the bytes are not valid.
func TestWholeInvalid(t *testing.T) {
	for s, want := range map[string]int{
		"\x1b$":                   api.High, // 8 in Shift, which lacks a byte
		"\x1b$B":                  api.Shift,
		"\x1b$B!":                 api.Utf,
		"\x1b(Bab\xe9":            api.Latin,
		"\xc3\xa9\xc3\xa9\xc3":    api.Twin, // Utf lacks a byte
		"\xc3\xa9\xc3\xa9\xff":    api.Latin,
		"\x81a\x81a\x81":          api.None,
		"\x81a\x81a\x81\xff":      api.Low,
		"a\x00b\x00c":             api.Utf, // Low lacks a byte
		"a\x00b\x00\x00\xdc":      api.High,
		"\x00a\x00b\xdc\x00\x00a": api.Low,
	} {
		check(t, s, want)
	}
}

// P5.3: there is no limit on the number of bytes.
func TestWholeLong(t *testing.T) {
	n := 10 * api.MaxBytes
	for s, want := range map[string]int{
		"a":                 api.Utf,
		"\xc3\xa9":          api.Utf,
		"\x1b$B!!\x1b(B":    api.Shift,
		"\x81\x40":          api.Twin,
		"\xe9a":             api.Latin,
		"a\x00":             api.Low,
		"\x00a":             api.High,
		"a\x8d\xff\xff\x80": api.None,
	} {
		check(t, strings.Repeat(s, n)+s, want)
	}
	// Only the last pair, or the first one, is not the same in Twin and Latin.
	check(t, strings.Repeat(" ", n)+"a\xd0", api.Latin)
	check(t, strings.Repeat(" ", n)+"a\xa1", api.Twin)
	check(t, "\xd0a"+strings.Repeat(" ", n), api.Latin)
	check(t, "\xa1a"+strings.Repeat(" ", n), api.Twin)
}

// Bytes of all classes, and those at which the encodings differ.
const borders = "a .0\n\x00\x1b$(B\x7f\x80\x81\x8d\xa1\xbf\xc3\xd8\xdc\xe9\xff"

// P5.3 and P5.4: all strings of up to two bytes.
func TestEveryPair(t *testing.T) {
	for a := range 256 {
		one := string([]byte{byte(a)})
		check(t, one, wantWhole(one))
		for b := range 256 {
			two := one + string([]byte{byte(b)})
			check(t, two, wantWhole(two))
		}
	}
}

// P5.3 and P5.4: all short strings of bytes at the borders.
func TestEveryStringOfBorders(t *testing.T) {
	for n := range 5 {
		each(borders, n, func(s string) { check(t, s, wantWhole(s)) })
	}
}

// P5.3 and P5.4: long strings, of few different bytes so that some are valid.
func TestLongStrings(t *testing.T) {
	for _, alphabet := range []string{borders, "a .\xc3\xa9", "a$(B\x1b", "a \x81\xa1@", "a1\xe9\xff", "a\x00", "a\x00\xd8\xdc", "ab", "\xd0a ."} {
		random(alphabet, 3000, 24, func(s string) { check(t, s, wantWhole(s)) })
	}
}

// P5.4: the initial scores.
func TestNew(t *testing.T) {
	for e, score := range New() {
		if score != (api.Score{}) {
			t.Errorf("New: %v for %d", score, e)
		}
	}
	if got := Best(New()); got != api.Utf {
		t.Errorf("Best of New: %d", got)
	}
}

// P5.4: the sum and the state of each encoding after each byte, also where
// they are not valid any more.
func TestStep(t *testing.T) {
	random(borders, 2000, 16, func(s string) {
		for n := range len(s) + 1 {
			l := steps(s[:n])
			for _, e := range encodings {
				if want := sum(e, s[:n]); l[e].Sum != want {
					t.Fatalf("%q in %d: the sum %d, want %d", s[:n], e, l[e].Sum, want)
				}
				if want := auto.Accepts(e, s[:n]); auto.Ends(e, l[e].State) != want {
					t.Fatalf("%q in %d: the state %d, which is not valid: %v", s[:n], e, l[e].State, want)
				}
			}
			if l[api.None] != (api.Score{}) {
				t.Fatalf("%q: %v for None", s[:n], l[api.None])
			}
		}
	})
}

// P5.4: the first byte is in no pair, and every other one is.
func TestStepLast(t *testing.T) {
	for b := range 256 {
		for e, score := range Step(New(), -1, b) {
			if score.Sum != 0 {
				t.Errorf("the first byte %d has the sum %d in %d", b, score.Sum, e)
			}
		}
		for last := range 256 {
			l := Step(New(), last, b)
			for _, e := range encodings {
				if want := wantWeight(e, last, b); l[e].Sum != want {
					t.Errorf("%d after %d has the sum %d in %d, want %d", b, last, l[e].Sum, e, want)
				}
			}
		}
	}
}

// P5.4: the state depends on the bytes before, and not on last.
func TestStepState(t *testing.T) {
	for b := range 256 {
		for s := range api.Never + 1 {
			var l [api.High + 1]api.Score
			for e := range l {
				l[e] = api.Score{State: s, Sum: 10 * e}
			}
			next := Step(l, -1, b)
			for _, e := range encodings {
				want := api.Score{State: auto.Step(e, s, b), Sum: 10 * e}
				if next[e] != want {
					t.Errorf("%d in the state %d of %d: %v, want %v", b, s, e, next[e], want)
				}
			}
		}
	}
}

// list returns scores with these sums, from Utf on, in the initial state.
func list(sums ...int) [api.High + 1]api.Score {
	l := New()
	for i, n := range sums {
		l[api.Utf+i].Sum = n
	}
	return l
}

// P5.4: the greatest sum, the first one of equal ones.
func TestBest(t *testing.T) {
	least, most := math.MinInt64, math.MaxInt64
	for _, c := range []struct {
		sums []int
		want int
	}{
		{[]int{0, 0, 0, 0, 0, 0}, api.Utf},
		{[]int{1, 2, 3, 4, 5, 6}, api.High},
		{[]int{6, 5, 4, 3, 2, 1}, api.Utf},
		{[]int{1, 2, 2, 2, 2, 2}, api.Shift},
		{[]int{1, 2, 3, 1, 3, 2}, api.Twin},
		{[]int{-5, -4, -3, -2, -3, -4}, api.Latin},
		{[]int{-5, -5, -5, -5, -4, -4}, api.Low},
		{[]int{least, least, least, least, least, least}, api.Utf},
		{[]int{least, most, least, most, least, most}, api.Shift},
		{[]int{most, most, most, most, most, most}, api.Utf},
	} {
		if got := Best(list(c.sums...)); got != c.want {
			t.Errorf("Best of %v: %d, want %d", c.sums, got, c.want)
		}
	}
}

// P5.4: what is not valid, or lacks bytes, is not chosen.
func TestBestInvalid(t *testing.T) {
	for _, sum := range []int{math.MinInt64, -1, 0, 1, math.MaxInt64} {
		none := list(sum, sum, sum, sum, sum, sum)
		none[api.None].Sum = math.MaxInt64
		for e := range none {
			none[e].State = api.Never
		}
		if got := Best(none); got != api.None {
			t.Errorf("Best where nothing is valid: %d", got)
		}
		for _, e := range encodings {
			one := none
			one[e] = api.Score{Sum: math.MinInt64}
			if got := Best(one); got != e {
				t.Errorf("Best where only %d is valid: %d", e, got)
			}
		}
	}
	half := steps("\xc3")
	half[api.Utf].Sum = 100
	if got := Best(half); got != api.Twin {
		t.Errorf("Best with a part of a sequence in Utf: %d", got)
	}
}

// P5.4: all numbers end without a panic, and what is not a byte or a state is
// not valid.
func TestNumbers(t *testing.T) {
	for _, n := range append(notBytes, 0, 'a', 27, 255) {
		for _, b := range notBytes {
			if got := Best(Step(New(), n, b)); got != api.None {
				t.Errorf("Best after %d, %d: %d", n, b, got)
			}
		}
		if n != 0 {
			l := list(1, 2, 3, 4, 5, 6)
			for e := range l {
				l[e].State = 1<<40 + n
				l[e].Sum = n
			}
			if got := Best(Step(l, 'a', 'b')); got != api.None {
				t.Errorf("Best in the state %d: %d", n, got)
			}
		}
		Best(Step(list(n, n, n, n, n, n), n, 'a'))
	}
}
