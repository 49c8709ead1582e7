package sniff

import (
	"strings"
	"testing"

	"plumbline/api"
)

var markOf = map[int]string{
	api.Utf:  "\xef\xbb\xbf",
	api.Low:  "\xff\xfe",
	api.High: "\xfe\xff",
}

// wantMark and wantMay are P4.1 word for word.
func wantMark(s string) (int, int) {
	for e, mark := range markOf {
		if strings.HasPrefix(s, mark) {
			return e, len(mark)
		}
	}
	return api.None, 0
}

func wantMay(s string) bool {
	for _, mark := range markOf {
		if s != mark && strings.HasPrefix(mark, s) {
			return true
		}
	}
	return false
}

func checkMark(t *testing.T, s string) {
	t.Helper()
	e, n := Mark(s)
	if wantE, wantN := wantMark(s); e != wantE || n != wantN {
		t.Errorf("Mark(%q): %d, %d, want %d, %d", s, e, n, wantE, wantN)
	}
	if got, want := MayMark(s), wantMay(s); got != want {
		t.Errorf("MayMark(%q): %v, want %v", s, got, want)
	}
}

// P4.1: the marks themselves, with every byte behind them.
func TestMark(t *testing.T) {
	for e, mark := range markOf {
		if got, n := Mark(mark); got != e || n != len(mark) {
			t.Errorf("Mark(%q): %d, %d", mark, got, n)
		}
		for b := range 256 {
			s := mark + string([]byte{byte(b)})
			if got, n := Mark(s); got != e || n != len(mark) {
				t.Errorf("Mark(%q): %d, %d", s, got, n)
			}
			if MayMark(s) {
				t.Errorf("MayMark(%q): true", s)
			}
		}
	}
}

// P4.1: a mark counts at the beginning only.
func TestMarkElsewhere(t *testing.T) {
	for _, mark := range markOf {
		for _, front := range []string{"a", " ", "\x00", "\xef", "\xef\xbb", "\xbb\xbf", "\xfe\xfe", "\xff\xff"} {
			if e, n := Mark(front + mark); e != api.None || n != 0 {
				t.Errorf("Mark(%q): %d, %d", front+mark, e, n)
			}
		}
	}
}

// P4.1: the proper prefixes of marks, among them the empty string.
func TestMayMark(t *testing.T) {
	for s, want := range map[string]bool{
		"":                 true,
		"\xef":             true,
		"\xef\xbb":         true,
		"\xff":             true,
		"\xfe":             true,
		"\xef\xbb\xbf":     false,
		"\xff\xfe":         false,
		"\xfe\xff":         false,
		"\xbb":             false,
		"\xbf":             false,
		"\xbb\xbf":         false,
		"\xef\xbf":         false,
		"\xff\xff":         false,
		"\xfe\xfe":         false,
		"a":                false,
		"\x00":             false,
		"\u00ef":           false,
		"\ufffd":           false,
		"\xef\xbb\xbe":     false,
		"\xef\xbb\xbf\xbf": false,
	} {
		if got := MayMark(s); got != want {
			t.Errorf("MayMark(%q): %v", s, got)
		}
	}
}

// P4.1: all strings of up to two bytes.
func TestMarkShort(t *testing.T) {
	checkMark(t, "")
	for a := range 256 {
		checkMark(t, string([]byte{byte(a)}))
		for b := range 256 {
			checkMark(t, string([]byte{byte(a), byte(b)}))
		}
	}
}

// P4.1: all strings of up to four bytes that are in a mark or beside one.
func TestMarkBorders(t *testing.T) {
	var grow func(s string, left int)
	grow = func(s string, left int) {
		checkMark(t, s)
		if left == 0 {
			return
		}
		for _, b := range []byte("\xef\xbb\xbf\xff\xfe\xee\xf0\xba\xbc\xbe\xc0\xfd\x00a") {
			grow(s+string([]byte{b}), left-1)
		}
	}
	grow("", 4)
}

// P4.1: the bytes behind the mark do not matter, however many they are.
func TestMarkLong(t *testing.T) {
	rest := strings.Repeat("\xff\xfe", 100000)
	if e, n := Mark("\xef\xbb\xbf" + rest); e != api.Utf || n != 3 {
		t.Errorf("a mark before a long text: %d, %d", e, n)
	}
	if e, n := Mark("a" + rest); e != api.None || n != 0 {
		t.Errorf("a long text: %d, %d", e, n)
	}
	if MayMark("\xef\xbb" + rest) {
		t.Error("a long text may be a mark")
	}
}
