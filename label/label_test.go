package label

import (
	"math"
	"strings"
	"testing"

	"plumbline/api"
)

var labels = map[string]int{
	"utf-8":             api.Utf,
	"utf8":              api.Utf,
	"unicode-1-1-utf-8": api.Utf,
	"shift":             api.Shift,
	"iso-2022":          api.Shift,
	"twin":              api.Twin,
	"x-twin":            api.Twin,
	"ms_twin":           api.Twin,
	"latin":             api.Latin,
	"latin1":            api.Latin,
	"ascii":             api.Latin,
	"us-ascii":          api.Latin,
	"windows-1252":      api.Latin,
	"utf-16":            api.Low,
	"utf-16le":          api.Low,
	"utf-16be":          api.High,
}

func isSpace(b int) bool {
	return b == 32 || b == 9 || b == 10 || b == 12 || b == 13
}

// P1.1: each byte value by itself, at the ends and in the middle.
func TestTrimEveryByte(t *testing.T) {
	for b := range 256 {
		one := string([]byte{byte(b)})
		want := one
		if 'A' <= b && b <= 'Z' {
			want = string([]byte{byte(b + 32)})
		}
		if got := Trim("x" + one + "x"); got != "x"+want+"x" {
			t.Errorf("byte %d in the middle: %q", b, got)
		}
		if isSpace(b) {
			want = ""
		}
		if got := Trim(one); got != want {
			t.Errorf("byte %d alone: %q", b, got)
		}
		if got := Trim(one + "x"); got != want+"x" {
			t.Errorf("byte %d in front: %q", b, got)
		}
		if got := Trim("x" + one); got != "x"+want {
			t.Errorf("byte %d at the end: %q", b, got)
		}
	}
}

// P1.1: several spaces, other spaces, and letters that are not A to Z.
func TestTrim(t *testing.T) {
	for s, want := range map[string]string{
		"":                       "",
		" \t\n\f\r":              "",
		" \r\n\f\tA \t Z\t\f\n ": "a \t z",
		"ABCXYZabcxyz":           "abcxyzabcxyz",
		"@[`{":                   "@[`{",
		"\v A \v":                "\v a \v",
		"\x00 A \x00":            "\x00 a \x00",
		"\u00a0A\u2003":          "\u00a0a\u2003",
		"\u00c9\u212a":           "\u00c9\u212a",
		" \xff\xc3A\xc9 ":        "\xff\xc3a\xc9",
		"\xa0\x85":               "\xa0\x85",
	} {
		if got := Trim(s); got != want {
			t.Errorf("Trim(%q): %q, want %q", s, got, want)
		}
	}
}

// P1.1: Trim has no limit on the length.
func TestTrimLong(t *testing.T) {
	long := strings.Repeat("Ab ", 5000)
	want := strings.Repeat("ab ", 4999) + "ab"
	if Trim(strings.Repeat(" \t", 5000)+long) != want {
		t.Error("a long string is not trimmed")
	}
}

// P1.2: all labels, in each case and with spaces around them.
func TestFindLabels(t *testing.T) {
	for s, want := range labels {
		for _, form := range []string{s, strings.ToUpper(s), strings.ToUpper(s[:1]) + s[1:], " " + s, s + "\n", "\t\f" + s + "\r "} {
			if got := Find(form); got != want {
				t.Errorf("Find(%q): %d, want %d", form, got, want)
			}
		}
	}
}

// P1.2: what is near a label is none, unless it is listed itself.
func TestFindNearLabels(t *testing.T) {
	for s := range labels {
		for i := range len(s) {
			for _, near := range []string{s[:i] + s[i+1:], s[:i] + " " + s[i:], s[:i] + "\v" + s[i:], s[:i] + "x" + s[i+1:]} {
				if got, want := Find(near), labels[strings.Trim(near, " ")]; got != want {
					t.Errorf("Find(%q): %d, want %d", near, got, want)
				}
			}
		}
	}
}

// P1.2: what is no label.
func TestFindNone(t *testing.T) {
	for _, s := range []string{
		"", " ", "\t\n\f\r", "none", "utf", "utf-16-le", "utf-32", "utf_8", "utf 8", "latin2", "iso-2022-jp",
		"high", "low", "x-shift", "ms-twin", "\vutf-8", "utf-8\x00", "\x00", "\xef\xbb\xbfutf-8", "\u00a0utf-8",
		"a\u017fcii", "\u017fhift", "\xff", "\"utf-8\"", "utf-8;",
	} {
		if got := Find(s); got != api.None {
			t.Errorf("Find(%q): %d", s, got)
		}
	}
}

// P1.2: the limit is on all bytes of the label, spaces included.
func TestFindLimit(t *testing.T) {
	for s, want := range labels {
		pad := strings.Repeat(" ", api.MaxLabel-len(s))
		for _, form := range []string{pad + s, s + pad} {
			if got := Find(form); got != want {
				t.Errorf("Find(%q): %d, want %d", form, got, want)
			}
		}
		for _, form := range []string{pad + " " + s, s + pad + " ", pad + s + "\n"} {
			if got := Find(form); got != api.None {
				t.Errorf("Find(%q): %d, want none", form, got)
			}
		}
	}
	if got := Find(strings.Repeat(" ", 100000) + "utf-8"); got != api.None {
		t.Errorf("a very long label: %d", got)
	}
}

// P1.3: all encodings and the numbers around them.
func TestName(t *testing.T) {
	for e, want := range map[int]string{
		api.Utf:       "utf-8",
		api.Shift:     "shift",
		api.Twin:      "twin",
		api.Latin:     "latin",
		api.Low:       "utf-16le",
		api.High:      "utf-16be",
		api.None:      "",
		-1:            "",
		api.High + 1:  "",
		256:           "",
		257:           "",
		1<<32 + 1:     "",
		math.MaxInt64: "",
		math.MinInt64: "",
	} {
		if got := Name(e); got != want {
			t.Errorf("Name(%d): %q, want %q", e, got, want)
		}
	}
}

// P1.2 and P1.3: a name is a label of its own encoding.
func TestNamesAreLabels(t *testing.T) {
	for e := api.Utf; e <= api.High; e++ {
		if got := Find(Name(e)); got != e {
			t.Errorf("Find(Name(%d)): %d", e, got)
		}
	}
}
