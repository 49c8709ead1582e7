package sniff

import (
	"regexp"
	"strings"
	"testing"

	"plumbline/api"
	"plumbline/label"
)

type labelCase struct {
	s    string
	e    int
	sure bool
}

func checkLabels(t *testing.T, cases []labelCase) {
	t.Helper()
	for _, c := range cases {
		if e, sure := Label(c.s); e != c.e || sure != c.sure {
			t.Errorf("Label(%q): %d, %v, want %d, %v", c.s, e, sure, c.e, c.sure)
		}
	}
}

// pad is n bytes without a label that do not end a value.
func pad(n int) string { return strings.Repeat("x", n) }

// P4.2: the window is the first Window bytes.
func TestLabelWindow(t *testing.T) {
	text := `charset="twin"`
	fits := api.Window - len(text)
	checkLabels(t, []labelCase{
		{"", api.None, false},
		{"x", api.None, false},
		{pad(api.Window - 1), api.None, false},
		{pad(api.Window), api.None, true},
		{pad(api.Window + 1), api.None, true},
		{pad(100000), api.None, true},
		{pad(fits-1) + text, api.Twin, true},
		{pad(fits) + text, api.Twin, true},
		{pad(fits) + text + pad(1000), api.Twin, true},
		// Only the closing quote is behind the window.
		{pad(fits+1) + text, api.None, true},
		{pad(fits+1) + text + pad(1000), api.None, true},
		{pad(api.Window) + text, api.None, true},
		{pad(100000) + text, api.None, true},
		// The key does not fit.
		{pad(api.Window-len(key)+1) + key + "twin;", api.None, true},
		// The key fits, and the value does not begin in the window.
		{pad(api.Window-len(key)) + key + "twin;", api.None, true},
		{pad(api.Window-len(key)-1) + key + "twin;", api.None, true},
		// A value without quotes needs its end in the window too.
		{pad(api.Window-len(key)-5) + key + "twin;", api.Twin, true},
		{pad(api.Window-len(key)-4) + key + "twin;", api.None, true},
		{pad(api.Window-len(key)-4) + key + "twin", api.None, true},
		{pad(api.Window-len(key)-5) + key + "twin", api.None, false},
		// What is before the end of the window is not a label by itself.
		{pad(api.Window-len(key)-5) + key + "latin1;", api.None, true},
	})
}

// P4.2: the key, in upper and lower case, letter by letter.
func TestLabelKeyCase(t *testing.T) {
	for bits := range 1 << 7 {
		name := []byte(key)
		for i := range 7 {
			if bits>>i&1 == 1 {
				name[i] -= 32
			}
		}
		checkLabels(t, []labelCase{
			{string(name) + "twin;", api.Twin, true},
			{"<a " + string(name) + "'twin'", api.Twin, true},
		})
	}
}

// P4.2: no other byte stands for a byte of the key.
func TestLabelKeyBytes(t *testing.T) {
	for i := range len(key) {
		for b := range 256 {
			name := []byte(key)
			name[i] = byte(b)
			want := labelCase{string(name) + "twin;", api.None, false}
			if strings.ToLower(string(rune(b))) == key[i:i+1] && b < 128 {
				want.e, want.sure = api.Twin, true
			}
			checkLabels(t, []labelCase{want})
		}
	}
	for _, s := range []string{
		"charset twin;", "charset:twin;", "charset =twin;", "charset", "char set=twin;", "harset=twin;", "cha\u017fet=twin;",
		"char\u017fet=twin;", "charset\xef\xbc\x9dtwin;", "encoding=twin;", "twin;", "\"twin\"", "charset\x00=twin;",
	} {
		checkLabels(t, []labelCase{{s, api.None, false}})
	}
}

// P4.2: the key counts at every position, also inside of words and after a
// beginning of itself.
func TestLabelKeyPosition(t *testing.T) {
	for n := range api.Window - len(key) - 4 {
		checkLabels(t, []labelCase{{pad(n) + key + "twin;", api.Twin, true}})
	}
	for n := range len(key) {
		checkLabels(t, []labelCase{
			{key[:n] + key + "twin;", api.Twin, true},
			{key[:n] + key[:n] + key + "twin;", api.Twin, true},
		})
	}
	checkLabels(t, []labelCase{
		{"accept-charset=twin;", api.Twin, true},
		{"xcharset=twin;", api.Twin, true},
		{"\x00\xffcharset=twin;", api.Twin, true},
		{"\xef\xbb\xbfcharset=twin;", api.Twin, true},
		{"c\x00h\x00a\x00r\x00s\x00e\x00t\x00=\x00twin;", api.None, false},
	})
}

// P4.2: a beginning of the key at the end of the bytes.
func TestLabelKeyCut(t *testing.T) {
	for n := range len(key) + 1 {
		for _, front := range []string{"", "x", "c", "charset=none;"} {
			checkLabels(t, []labelCase{
				{front + key[:n], api.None, false},
				{front + strings.ToUpper(key[:n]), api.None, false},
				{front + pad(api.Window-len(front)-n) + key[:n], api.None, true},
			})
		}
	}
}

// P4.2: every byte, at the end of a value without quotes.
func TestLabelValueEnds(t *testing.T) {
	ending := map[byte]bool{32: true, 9: true, 10: true, 13: true, ';': true, '"': true, '\'': true, '>': true}
	for b := range 256 {
		end := string([]byte{byte(b)})
		want := labelCase{key + "twin" + end, api.None, false}
		if ending[byte(b)] {
			want.e, want.sure = api.Twin, true
		}
		// What is behind the end does not matter.
		checkLabels(t, []labelCase{want, {key + "twin" + end + "2", want.e, want.sure}})
		// The form feed belongs to the value, and to the spaces of a label.
		want = labelCase{key + "twin" + end + " ", api.None, false}
		if ending[byte(b)] || b == 12 {
			want.e, want.sure = api.Twin, true
		}
		checkLabels(t, []labelCase{want})
	}
}

// P4.2: every byte between quotes of one kind: only that quote ends the value.
func TestLabelQuotedValue(t *testing.T) {
	for _, quote := range []string{`"`, "'"} {
		for b := range 256 {
			one := string([]byte{byte(b)})
			want := labelCase{key + quote + "twin" + one, api.None, false}
			if one == quote {
				want.e, want.sure = api.Twin, true
			}
			checkLabels(t, []labelCase{want})
			want = labelCase{key + quote + "twin" + one + quote, api.None, false}
			if one == quote || strings.Contains(" \t\n\f\r", one) {
				want.e, want.sure = api.Twin, true
			}
			checkLabels(t, []labelCase{want})
		}
	}
	checkLabels(t, []labelCase{
		{`charset="twin'`, api.None, false},
		{`charset='twin"`, api.None, false},
		{`charset="'twin'"`, api.None, false},
		{`charset='"twin"'`, api.None, false},
		{`charset=""twin"`, api.None, false},
		{`charset="twin`, api.None, false},
		{`charset="`, api.None, false},
		{`charset='`, api.None, false},
		{`charset=""`, api.None, false},
		{`charset=''`, api.None, false},
		{`charset="twin;"`, api.None, false},
		{`charset="twin>`, api.None, false},
		{`charset=" twin `, api.None, false},
		{`charset=twin"`, api.Twin, true},
		{`charset=twin'`, api.Twin, true},
		{"charset=\"\n\f\r\t Twin \t\"", api.Twin, true},
		{"charset=\"\vtwin\"", api.None, false},
		// A quote that is not at the beginning of the value ends it.
		{`charset= "twin"`, api.None, false},
		{`charset=x"twin"`, api.None, false},
		{`charset=\"twin\"`, api.None, false},
	})
}

// P4.2: values without a label, and what follows them.
func TestLabelNextValue(t *testing.T) {
	checkLabels(t, []labelCase{
		{"charset=;charset=twin;", api.Twin, true},
		{"charset=  charset=twin;", api.Twin, true},
		{"charset=''charset=twin;", api.Twin, true},
		{"charset=none;charset='shift'", api.Shift, true},
		{"charset=none;charset=shift", api.None, false},
		{"charset=none;charset=none;", api.None, false},
		// The search goes on inside of a value that is no label.
		{"charset=charset=twin;", api.Twin, true},
		{"charset=charset='twin'", api.Twin, true},
		{"charset='charset=twin;'", api.Twin, true},
		{"charset='charset=\"twin\"'", api.Twin, true},
		{"charset=\"x charset=twin \"", api.Twin, true},
		{"charset='x charset=\"latin1\" charset=twin '", api.Latin, true},
		// A value that is a label is a result before anything in or behind it.
		{"charset=latin;charset=twin;", api.Latin, true},
		{"charset='latin'charset=twin;", api.Latin, true},
	})
}

// P4.2: a value without an end ends the search, although more values with an
// end are inside of it.
func TestLabelOpenValue(t *testing.T) {
	checkLabels(t, []labelCase{
		{"charset=", api.None, false},
		{"charset=t", api.None, false},
		{"charset=twin", api.None, false},
		{"charset=charset=twin", api.None, false},
		{"charset=\"x charset=twin ", api.None, false},
		{"charset='charset=\"twin\"", api.None, false},
		{"charset=none;charset='charset=twin;", api.None, false},
		{"charset='" + pad(api.MaxLabel-13) + "charset=twin;", api.None, false},
		{pad(api.Window-22) + "charset='charset=twin;", api.None, true},
		{pad(api.Window-22) + "charset='charset=twin;'", api.None, true},
	})
}

// P4.2: the limit is on the bytes of the value without its quotes.
func TestLabelLimit(t *testing.T) {
	spaces := strings.Repeat(" ", api.MaxLabel-4)
	feeds := strings.Repeat("\f", api.MaxLabel-4)
	checkLabels(t, []labelCase{
		{"charset='" + spaces + "twin'", api.Twin, true},
		{"charset='" + spaces + " twin'", api.None, false},
		{"charset='twin" + spaces + "'", api.Twin, true},
		{"charset='twin" + spaces + " '", api.None, false},
		{"charset=" + feeds + "twin;", api.Twin, true},
		{"charset=" + feeds + "\ftwin;", api.None, false},
		{"charset=twin" + feeds + ">", api.Twin, true},
		{"charset=twin" + feeds + "\f>", api.None, false},
		// A longer value is ignored, with its end and without.
		{"charset=" + pad(api.MaxLabel) + " charset=twin;", api.Twin, true},
		{"charset=" + pad(api.MaxLabel+1) + " charset=twin;", api.Twin, true},
		{"charset=" + pad(api.MaxLabel+1) + "charset=twin;", api.Twin, true},
		{"charset='" + pad(api.MaxLabel+1) + "'charset=twin;", api.Twin, true},
		{"charset='" + pad(api.MaxLabel+1) + "charset=twin;", api.Twin, true},
		{"charset='" + pad(100) + "charset=twin;", api.Twin, true},
		{"charset='" + pad(api.MaxLabel+1), api.None, false},
		{"charset='" + pad(api.MaxLabel), api.None, false},
		{"charset=" + pad(api.Window), api.None, true},
		// Exactly MaxLabel bytes, and one more, of a value that is still open.
		{"charset='" + pad(api.MaxLabel-13) + "charset=twin;", api.None, false},
		{"charset='" + pad(api.MaxLabel-12) + "charset=twin;", api.Twin, true},
		{"charset=\"" + pad(api.MaxLabel-13) + "charset=twin;", api.None, false},
		{"charset=\"" + pad(api.MaxLabel-12) + "charset=twin;", api.Twin, true},
		// Bytes behind the window do not count.
		{pad(api.Window-9-api.MaxLabel) + "charset='" + pad(api.MaxLabel-13) + "charset=twin;xx", api.None, true},
		{pad(api.Window-9-api.MaxLabel-1) + "charset='" + pad(api.MaxLabel-12) + "charset=twin;", api.Twin, true},
	})
}

// P4.3: all encodings, and the two that are replaced.
func TestLabelResult(t *testing.T) {
	for s, want := range map[string]int{
		"utf-8": api.Utf, "utf8": api.Utf, "unicode-1-1-utf-8": api.Utf, "shift": api.Shift, "iso-2022": api.Shift,
		"twin": api.Twin, "x-twin": api.Twin, "ms_twin": api.Twin, "latin": api.Latin, "latin1": api.Latin,
		"ascii": api.Latin, "us-ascii": api.Latin, "windows-1252": api.Latin,
		"utf-16": api.Utf, "utf-16le": api.Utf, "utf-16be": api.Utf,
	} {
		for _, form := range []string{s, strings.ToUpper(s)} {
			checkLabels(t, []labelCase{
				{key + form + ";", want, true},
				{key + "'" + form + "'", want, true},
				{key + "\" " + form + "\t\" charset=shift;", want, true},
				{"<meta charset=" + form + ">" + pad(1000), want, true},
			})
		}
		checkLabels(t, []labelCase{
			{key + s, api.None, false},
			{key + s + "x;", api.None, false},
			{key + "'x" + s + "'", api.None, false},
		})
	}
	checkLabels(t, []labelCase{
		{`charset="utf8"`, api.Utf, true},
		{`<meta charset="twin">`, api.Twin, true},
		{"charset=utf-16;charset=twin;", api.Utf, true},
		{"charset=utf-16be;charset=twin;", api.Utf, true},
		{"charset=utf-32;" + pad(api.Window), api.None, true},
	})
}

var (
	quoted = regexp.MustCompile(`(?s)^(?:"([^"]*)("?)|'([^']*)('?))`)
	plain  = regexp.MustCompile(`(?s)^([^ \t\n\r;"'>]*)([ \t\n\r;"'>]?)`)
)

// wantLabel is P4.2 and P4.3 by regular expressions. These read runes, so it is
// for strings of ASCII only.
func wantLabel(s string) (int, bool) {
	in := s[:min(len(s), api.Window)]
	full := len(in) == api.Window
	lowered := strings.ToLower(in)
	for i := range len(in) {
		if len(in)-i < len(key) && strings.HasPrefix(key, lowered[i:]) {
			return api.None, full
		}
		if !strings.HasPrefix(lowered[i:], key) {
			continue
		}
		rest := in[i+len(key):]
		m := plain.FindStringSubmatch(rest)
		if q := quoted.FindStringSubmatch(rest); q != nil {
			m = []string{"", q[1] + q[3], q[2] + q[4]}
		}
		if len(m[1]) > api.MaxLabel {
			continue
		}
		if m[2] == "" {
			return api.None, full
		}
		switch e := label.Find(m[1]); e {
		case api.None:
		case api.Low, api.High:
			return api.Utf, true
		default:
			return e, true
		}
	}
	return api.None, full
}

func checkOracle(t *testing.T, s string) {
	t.Helper()
	e, sure := wantLabel(s)
	checkLabels(t, []labelCase{{s, e, sure}})
}

// P4.2 and P4.3: all short sequences of pieces.
func TestLabelPieces(t *testing.T) {
	pieces := []string{"charset=", "CharSet=", "char", "set=", "twin", "utf-16", " ", "\f", ";", ">", `"`, "'", "\r", pad(30)}
	var grow func(s string, left int)
	grow = func(s string, left int) {
		checkOracle(t, s)
		if left == 0 {
			return
		}
		for _, piece := range pieces {
			grow(s+piece, left-1)
		}
	}
	for _, front := range []string{"charset=", "charset='", pad(api.Window - 20), pad(api.Window - 30)} {
		grow(front, 4)
	}
}

// texts calls do with n long strings of pieces, the same ones in every run.
func texts(n int, do func(s string)) {
	pieces := []string{"charset=", "CHARSET=", "charset='", `charset="`, "c", "charse", "twin", "LATIN1", "utf-16be", "none", " ", "\t", "\f", ";", ">", `"`, "'", "x", pad(9), pad(35)}
	seed := uint32(4)
	pick := func(n int) int {
		seed = seed*1664525 + 1013904223
		return int(seed>>8) % n
	}
	for range n {
		s := pad(pick(api.Window))
		for range 30 {
			s += pieces[pick(len(pieces))]
		}
		do(s)
	}
}

// P4.2 and P4.3: long strings of pieces, in and around the window.
func TestLabelLongPieces(t *testing.T) {
	texts(20000, func(s string) { checkOracle(t, s) })
}

// P4.2 and P4.3: a result that is certain does not change, whatever follows,
// and the one that is not is None.
func TestLabelStays(t *testing.T) {
	texts(300, func(s string) {
		known := false
		var first int
		for n := range len(s) + 1 {
			e, sure := Label(s[:n])
			if known && (e != first || !sure) || !sure && e != api.None {
				t.Fatalf("Label(%q): %d, %v", s[:n], e, sure)
			}
			if sure && !known {
				known, first = true, e
			}
		}
		if !known && len(s) >= api.Window {
			t.Fatalf("Label(%q) is not certain", s)
		}
	})
}

// P4.2: a long value is all of the window, and more.
func TestLabelLong(t *testing.T) {
	checkLabels(t, []labelCase{
		{strings.Repeat("charset=", 100000), api.None, true},
		{strings.Repeat("charset='", 100000), api.None, true},
		{strings.Repeat("charset=none;", 100000), api.None, true},
		{strings.Repeat("\xff", 100000), api.None, true},
	})
}
