package detect

import (
	"fmt"
	"math"
	"slices"
	"strings"
	"testing"

	"plumbline/api"
	"plumbline/decode"
	"plumbline/score"
	"plumbline/sniff"
)

var encodings = []int{api.Utf, api.Shift, api.Twin, api.Latin, api.Low, api.High}

var notEncodings = []int{api.None, -1, api.High + 1, 256, 257, 1<<32 + 1, math.MaxInt64, math.MinInt64}

var markOf = map[int]string{
	api.Utf:  "\xef\xbb\xbf",
	api.Low:  "\xff\xfe",
	api.High: "\xfe\xff",
}

// samples are bytes for every reason, alone and in combination.
var samples = []string{
	"", "a", "plain text", "caf\xe9 a", "\x81\x40", "a\x00b\x00", "\x00a\x00b", "\x1b$B!!", "\x81", "\x81\xff\x80",
	"\xef", "\xef\xbb", "\xef\xbb\xbf", "\xef\xbb\xbfa", "\xef\xbba", "\xff", "\xff\xfe", "\xff\xfea\x00", "\xfe", "\xfe\xff", "\xfe\xff\x00a", "\xff\xff", "\xfe\xfe",
	"charset=twin;", "charset=twin", "charset=none;", "<meta charset=\"utf-16\">", "charset='utf-16be'", "charset=shift;\x81\xff",
	"\xef\xbb\xbfcharset=twin;", "\xff\xfecharset=twin;", "\xffcharset=twin;", "acharset=latin;\xef\xbb\xbf",
	strings.Repeat(" ", 243) + "charset=twin;", strings.Repeat(" ", 244) + "charset=twin;",
}

// verdict is one that is not final.
func verdict(e, by int) api.Verdict {
	return api.Verdict{Encoding: e, By: by}
}

// wantJudge is P6.2 word for word.
func wantJudge(hint int, s string) api.Verdict {
	mark, _ := sniff.Mark(s)
	found, _ := sniff.Label(s)
	best := score.Whole(s)
	switch {
	case mark != api.None:
		return verdict(mark, api.ByMark)
	case slices.Contains(encodings, hint):
		return verdict(hint, api.ByHint)
	case found != api.None:
		return verdict(found, api.ByLabel)
	case best != api.None:
		return verdict(best, api.ByScore)
	}
	return verdict(api.Latin, api.ByNone)
}

// wantTell is P6.3 word for word.
func wantTell(e int, s string) []int {
	if mark, ok := markOf[e]; ok {
		s = strings.TrimPrefix(s, mark)
	}
	out, err := decode.Whole(e, s)
	if err != api.OK {
		return nil
	}
	return out
}

// brief shows a value, however long a list is in it.
func brief(v any) string {
	return fmt.Sprintf("%.200s", fmt.Sprintf("%+v", v))
}

func checkJudge(t *testing.T, hint int, s string, want api.Verdict) {
	t.Helper()
	if got := Judge(hint, s); got != want {
		t.Errorf("Judge(%d, %.60q): %+v, want %+v", hint, s, got, want)
	}
}

func checkTell(t *testing.T, e int, s string, want []int) {
	t.Helper()
	if got := Tell(e, s); !slices.Equal(got, want) {
		t.Errorf("Tell(%d, %.60q): %s, want %s", e, s, brief(got), brief(want))
	}
}

// P6.2: a mark comes before everything else, a hint among it.
func TestJudgeMark(t *testing.T) {
	for e, mark := range markOf {
		for _, rest := range []string{"", "a", "charset=twin;", "\x81", "\x1b$B!!"} {
			for _, hint := range slices.Concat(encodings, notEncodings) {
				checkJudge(t, hint, mark+rest, verdict(e, api.ByMark))
			}
		}
	}
}

// P6.2: a hint comes before labels and scores, whatever the bytes are.
func TestJudgeHint(t *testing.T) {
	for _, hint := range encodings {
		for _, s := range []string{"", "a", "\x81", "\xff", "\xef\xbb", "charset=twin;", "charset=utf8;", "\x1b$B!!", "a\x00", "a\xef\xbb\xbf"} {
			checkJudge(t, hint, s, verdict(hint, api.ByHint))
		}
	}
}

// P6.2: a number that is not an encoding is not a hint.
func TestJudgeNoHint(t *testing.T) {
	for _, hint := range notEncodings {
		checkJudge(t, hint, "charset=twin;", verdict(api.Twin, api.ByLabel))
		checkJudge(t, hint, "plain text", verdict(api.Utf, api.ByScore))
		checkJudge(t, hint, "\x81", verdict(api.Latin, api.ByNone))
	}
}

// P6.2: a label comes before scores, even if the bytes are not valid in it.
func TestJudgeLabel(t *testing.T) {
	for s, want := range map[string]int{
		"charset=utf8;\xff":                                  api.Utf,
		"charset=shift;\x81":                                 api.Shift,
		"<meta charset=\"twin\">":                            api.Twin,
		"charset=none;charset=latin1;":                       api.Latin,
		"charset=latin;charset=twin;":                        api.Latin,
		"charset=utf-16;":                                    api.Utf,
		"charset=utf-16le;":                                  api.Utf,
		"charset=utf-16be;":                                  api.Utf,
		"charset=twin;\x1b$B!!\x1b(B":                        api.Twin,
		strings.Repeat(" ", api.Window-13) + "charset=twin;": api.Twin,
		"charset=twin;" + strings.Repeat("\x8d", 9999):       api.Twin,
	} {
		checkJudge(t, api.None, s, verdict(want, api.ByLabel))
	}
}

// P6.2: scores, where there is no mark, hint or label, or not all of it.
func TestJudgeScore(t *testing.T) {
	for s, want := range map[string]int{
		"":                api.Utf,
		"plain text":      api.Utf,
		"caf\xc3\xa9":     api.Utf,
		"\x1b$B!!\x1b(B":  api.Shift,
		"\x81\x40":        api.Twin,
		"caf\xe9 a":       api.Latin,
		"a\x00b\x00":      api.Low,
		"\x00a\x00b":      api.High,
		"\xff":            api.Latin,
		"charset=twin":    api.Utf,
		"charset=\"twin'": api.Utf,
		"charset=none;":   api.Utf,
		"a\xef\xbb\xbf":   api.Utf,
		strings.Repeat(" ", api.Window-12) + "charset=twin;": api.Utf,
		strings.Repeat("a", 9999) + "\xe9":                   api.Latin,
	} {
		checkJudge(t, api.None, s, verdict(want, api.ByScore))
	}
}

// P6.2: bytes that are valid in no encoding.
func TestJudgeNone(t *testing.T) {
	for _, s := range []string{"\x81", "\x8d", "\x81\xff\x80", "charset=twin\x81", "\xef\xbb\x81\x8d\x8d", strings.Repeat("a", 1000) + "\x8d"} {
		checkJudge(t, api.None, s, verdict(api.Latin, api.ByNone))
	}
}

// P6.2: all samples, alone and one after another, with all hints.
func TestJudgeEverySample(t *testing.T) {
	for _, hint := range slices.Concat(encodings, notEncodings) {
		for _, a := range samples {
			for _, b := range samples {
				checkJudge(t, hint, a+b, wantJudge(hint, a+b))
			}
		}
	}
}

// P6.2: all strings of up to two bytes.
func TestJudgeEveryPairOfBytes(t *testing.T) {
	for i := range 1 << 16 {
		s := string([]byte{byte(i >> 8), byte(i)})
		checkJudge(t, api.None, s, wantJudge(api.None, s))
		checkJudge(t, api.Twin, s, wantJudge(api.Twin, s))
		checkJudge(t, api.None, s[1:], wantJudge(api.None, s[1:]))
	}
}

// P6.3: a mark of the encoding is removed, once and at the beginning only.
func TestTellMark(t *testing.T) {
	checkTell(t, api.Utf, "\xef\xbb\xbfa", []int{97})
	checkTell(t, api.Utf, "\xef\xbb\xbf\xef\xbb\xbfa", []int{0xFEFF, 97})
	checkTell(t, api.Utf, "a\xef\xbb\xbf", []int{97, 0xFEFF})
	checkTell(t, api.Utf, "\xef\xbb", []int{-1})
	checkTell(t, api.Low, "\xff\xfea\x00", []int{97})
	checkTell(t, api.Low, "\xff\xfe\xff\xfea\x00", []int{0xFEFF, 97})
	checkTell(t, api.Low, "a\x00\xff\xfe", []int{97, 0xFEFF})
	checkTell(t, api.Low, "\xff", []int{-1})
	checkTell(t, api.High, "\xfe\xff\x00a", []int{97})
	checkTell(t, api.High, "\xfe\xff\xfe\xff\x00a", []int{0xFEFF, 97})
	checkTell(t, api.High, "\x00a\xfe\xff", []int{97, 0xFEFF})
	checkTell(t, api.High, "\xfe", []int{-1})
	for e, mark := range markOf {
		checkTell(t, e, mark, nil)
	}
}

// P6.3: a mark of another encoding is decoded like any other bytes.
func TestTellOtherMark(t *testing.T) {
	checkTell(t, api.Utf, "\xff\xfea", []int{-1, -1, 97})
	checkTell(t, api.Utf, "\xfe\xffa", []int{-1, -1, 97})
	checkTell(t, api.Low, "\xfe\xffa\x00", []int{0xFFFE, 97})
	checkTell(t, api.Low, "\xef\xbb\xbfa", []int{0xBBEF, 0x61BF})
	checkTell(t, api.High, "\xff\xfe\x00a", []int{0xFFFE, 97})
	checkTell(t, api.High, "\xef\xbb\xbfa", []int{0xEFBB, 0xBF61})
	checkTell(t, api.Shift, "\xef\xbb\xbfa", []int{-1, -1, -1, 97})
	checkTell(t, api.Twin, "\xef\xbb\xbfa", []int{-1, 0xFF61 + 26, 0xFF61 + 30, 97})
	checkTell(t, api.Latin, "\xef\xbb\xbfa", []int{0xEF, 0xBB, 0xBF, 97})
	checkTell(t, api.Latin, "\xff\xfea", []int{0xFF, 0xFE, 97})
	checkTell(t, api.Latin, "\xfe\xffa", []int{0xFE, 0xFF, 97})
}

// P6.3: bytes without a mark.
func TestTell(t *testing.T) {
	checkTell(t, api.Utf, "caf\xc3\xa9\xe2\x82a", []int{99, 97, 102, 0xE9, -1, 97})
	checkTell(t, api.Shift, "a\x1b$B!!\x1b(Ba", []int{97, 0x3000, 97})
	checkTell(t, api.Twin, "\x81\x40\x81", []int{0x4E00, -1})
	checkTell(t, api.Latin, "\x80\x81\xe9", []int{0x2080, -1, 0xE9})
	checkTell(t, api.Low, "a\x00b", []int{97, -1})
	checkTell(t, api.High, "\x00ab", []int{97, -1})
	for _, e := range encodings {
		checkTell(t, e, "", nil)
		for _, a := range samples {
			for _, b := range samples {
				checkTell(t, e, a+b, wantTell(e, a+b))
			}
		}
	}
}

// P6.3: nothing in what is not an encoding, with and without a mark.
func TestTellNotEncoding(t *testing.T) {
	for _, e := range notEncodings {
		for _, s := range samples {
			checkTell(t, e, s, nil)
		}
		checkTell(t, e, strings.Repeat("a", api.MaxBytes+1), nil)
	}
}

// P6.3: nothing above the limit of chapter 2, to which only the mark that is
// removed does not count.
func TestTellLong(t *testing.T) {
	full := strings.Repeat("a", api.MaxBytes)
	for _, e := range encodings {
		want, err := decode.Whole(e, full)
		if err != api.OK || len(want) == 0 {
			t.Fatalf("%d: %d", e, err)
		}
		checkTell(t, e, full, want)
		checkTell(t, e, full+"a", nil)
		checkTell(t, e, strings.Repeat(full, 10), nil)
		for marked, mark := range markOf {
			if marked == e {
				checkTell(t, e, mark+full, want)
				checkTell(t, e, mark+full+"a", nil)
			} else {
				checkTell(t, e, mark+full, nil)
			}
		}
	}
}

// P6.3: a result is new memory.
func TestTellIsNew(t *testing.T) {
	for _, e := range encodings {
		first := Tell(e, "a\x81\xff\x1b")
		for i := range first {
			first[i] = 7
		}
		checkTell(t, e, "a\x81\xff\x1b", wantTell(e, "a\x81\xff\x1b"))
	}
}
