package detect

import (
	"math"
	"slices"
	"strings"
	"testing"

	"plumbline/api"
	"plumbline/label"
)

var (
	ask    = api.Act{Kind: api.ActAsk}
	finish = api.Act{Kind: api.ActFinish}
)

func feed(s string) api.Act {
	return api.Act{Kind: api.ActFeed, Bytes: s}
}

func final(e, by int) api.Verdict {
	return api.Verdict{Encoding: e, By: by, Final: true}
}

// check compares a reply with an error, a verdict and an output.
func check(t *testing.T, d *Detector, a api.Act, want api.Reply) {
	t.Helper()
	if got := d.Do(a); !equal(got, want) {
		t.Errorf("%d %.40q after %.40q: %s, want %s", a.Kind, a.Bytes, d.Bytes(), brief(got), brief(want))
	}
}

func checkError(t *testing.T, d *Detector, a api.Act, want api.Errno) {
	t.Helper()
	before := d.Bytes()
	check(t, d, a, api.Reply{Code: want})
	if d.Bytes() != before {
		t.Errorf("%d %.40q changes the bytes", a.Kind, a.Bytes)
	}
}

// fed returns a detector to which the parts were fed.
func fed(t *testing.T, hint string, parts ...string) *Detector {
	t.Helper()
	d := New(hint)
	for _, s := range parts {
		check(t, d, feed(s), api.Reply{})
	}
	return d
}

// P6.1: the hint is what Find makes of it.
func TestNewHint(t *testing.T) {
	for hint, want := range map[string]int{
		"utf-8":           api.Utf,
		" UTF8\t":         api.Utf,
		"iso-2022":        api.Shift,
		"MS_Twin":         api.Twin,
		"windows-1252":    api.Latin,
		"utf-16":          api.Low,
		"utf-16le":        api.Low,
		"\r\nUTF-16BE\f ": api.High,
		"twin" + strings.Repeat(" ", api.MaxLabel-4): api.Twin,
	} {
		check(t, fed(t, hint, "a"), ask, api.Reply{Verdict: final(want, api.ByHint)})
	}
}

// P6.1: a hint that is no label is none.
func TestNewNoHint(t *testing.T) {
	for _, hint := range []string{"", " ", "none", "utf", "utf-8;", "\"utf-8\"", "charset=twin;", "\vtwin", "\xff\xfe", "twin" + strings.Repeat(" ", api.MaxLabel-3), strings.Repeat("twin", 9999)} {
		check(t, fed(t, hint, "a\x00"), ask, api.Reply{Verdict: verdict(api.Low, api.ByScore)})
	}
}

// P6.1: a new detector has no bytes, and none of another one.
func TestNewIsEmpty(t *testing.T) {
	first := fed(t, "twin", "abc")
	second := New("twin")
	if second == nil || second.Bytes() != "" {
		t.Fatalf("a new detector has the bytes %q", second.Bytes())
	}
	check(t, second, ask, api.Reply{Verdict: verdict(api.Twin, api.ByHint)})
	check(t, second, feed("d"), api.Reply{})
	check(t, first, feed("e"), api.Reply{})
	if first.Bytes() != "abce" || second.Bytes() != "d" {
		t.Errorf("%q, %q", first.Bytes(), second.Bytes())
	}
}

// P6.1: Bytes has every byte, in order, and nothing but what was fed.
func TestBytes(t *testing.T) {
	var all []byte
	for b := range 256 {
		all = append(all, byte(b))
	}
	d := New("")
	for i := range all {
		check(t, d, feed(string(all[i:i+1])), api.Reply{})
		if d.Bytes() != string(all[:i+1]) {
			t.Fatalf("after %d bytes: %q", i+1, d.Bytes())
		}
	}
	d = fed(t, "", "ab", "", "c")
	before := d.Bytes()
	d.Do(api.Act{Kind: api.ActAsk, Bytes: "x"})
	d.Do(api.Act{Kind: 4, Bytes: "x"})
	check(t, d, feed("d"), api.Reply{})
	d.Do(api.Act{Kind: api.ActFinish, Bytes: "x"})
	d.Do(feed("x"))
	if before != "abc" || d.Bytes() != "abcd" {
		t.Errorf("%q, then %q", before, d.Bytes())
	}
}

// P6.1: a nil detector.
func TestNil(t *testing.T) {
	var d *Detector
	for range api.MaxActs + 1 {
		for _, kind := range []int{api.ActFeed, api.ActAsk, api.ActFinish, 0, 4, -1, math.MinInt64} {
			checkError(t, d, api.Act{Kind: kind, Bytes: strings.Repeat("a", 5000)}, api.ErrForm)
		}
	}
	if d.Bytes() != "" {
		t.Errorf("%q", d.Bytes())
	}
}

// A detector that New did not return has no hint.
func TestZeroDetector(t *testing.T) {
	var d Detector
	check(t, &d, feed("caf\xe9 a"), api.Reply{})
	check(t, &d, ask, api.Reply{Verdict: verdict(api.Latin, api.ByScore)})
	check(t, &d, finish, api.Reply{Verdict: final(api.Latin, api.ByScore), Out: []int{'c', 'a', 'f', 0xE9, ' ', 'a'}})
}

// P6.4: the verdict after each byte, where reasons change.
func TestVerdictByteByByte(t *testing.T) {
	for _, c := range []struct {
		hint, bytes string
		want        []api.Verdict
	}{
		{"", "\xef\xbb\xbfa", []api.Verdict{
			verdict(api.Utf, api.ByScore),
			verdict(api.Latin, api.ByScore),
			verdict(api.Low, api.ByScore),
			final(api.Utf, api.ByMark),
			final(api.Utf, api.ByMark),
		}},
		{"twin", "\xef\xbb\xbfa", []api.Verdict{
			verdict(api.Twin, api.ByHint),
			verdict(api.Twin, api.ByHint),
			verdict(api.Twin, api.ByHint),
			final(api.Utf, api.ByMark),
			final(api.Utf, api.ByMark),
		}},
		{"twin", "\xef\xbba", []api.Verdict{
			verdict(api.Twin, api.ByHint),
			verdict(api.Twin, api.ByHint),
			verdict(api.Twin, api.ByHint),
			final(api.Twin, api.ByHint),
		}},
		{"utf8", "\xff\xfe", []api.Verdict{
			verdict(api.Utf, api.ByHint),
			verdict(api.Utf, api.ByHint),
			final(api.Low, api.ByMark),
		}},
		{"low", "\xfe\xff", []api.Verdict{
			verdict(api.Utf, api.ByScore),
			verdict(api.Latin, api.ByScore),
			final(api.High, api.ByMark),
		}},
		{"latin", "\xff\xff\xfe", []api.Verdict{
			verdict(api.Latin, api.ByHint),
			verdict(api.Latin, api.ByHint),
			final(api.Latin, api.ByHint),
			final(api.Latin, api.ByHint),
		}},
		{"utf-16", "a\x00", []api.Verdict{
			verdict(api.Low, api.ByHint),
			final(api.Low, api.ByHint),
			final(api.Low, api.ByHint),
		}},
		{"", "\x8d\x00", []api.Verdict{
			verdict(api.Utf, api.ByScore),
			verdict(api.Latin, api.ByNone),
			verdict(api.Low, api.ByScore),
		}},
	} {
		d := New(c.hint)
		check(t, d, ask, api.Reply{Verdict: c.want[0]})
		for i := range len(c.bytes) {
			check(t, d, feed(c.bytes[i:i+1]), api.Reply{})
			check(t, d, ask, api.Reply{Verdict: c.want[i+1]})
		}
	}
}

// P6.4: a label is final as soon as its value has an end.
func TestVerdictLabel(t *testing.T) {
	d := fed(t, "", "<meta char", "set=\"tw", "in")
	check(t, d, ask, api.Reply{Verdict: verdict(api.Utf, api.ByScore)})
	check(t, d, feed("\""), api.Reply{})
	check(t, d, ask, api.Reply{Verdict: final(api.Twin, api.ByLabel)})
	check(t, d, feed(">\xff\xfe charset=latin;"), api.Reply{})
	check(t, d, ask, api.Reply{Verdict: final(api.Twin, api.ByLabel)})
	d = fed(t, "none", "charset=utf-16;")
	check(t, d, ask, api.Reply{Verdict: final(api.Utf, api.ByLabel)})
	d = fed(t, "", "\xef\xbbcharset=twin;")
	check(t, d, ask, api.Reply{Verdict: final(api.Twin, api.ByLabel)})
}

// P6.4: scores, and the lack of any, are final only at the end.
func TestVerdictByScoreIsNotFinal(t *testing.T) {
	for _, s := range []string{"", "plain text", "\x1b$B!!", strings.Repeat("a", api.Window+1), strings.Repeat("a", api.MaxBytes)} {
		d := fed(t, "", s)
		v := Judge(api.None, s)
		if v.By != api.ByScore {
			t.Fatalf("%.40q: %+v", s, v)
		}
		check(t, d, ask, api.Reply{Verdict: v})
		check(t, d, finish, api.Reply{Verdict: final(v.Encoding, api.ByScore), Out: Tell(v.Encoding, s)})
		check(t, d, ask, api.Reply{Verdict: final(v.Encoding, api.ByScore)})
	}
	d := fed(t, "", "\x81\xff", "\x80")
	check(t, d, ask, api.Reply{Verdict: verdict(api.Latin, api.ByNone)})
	check(t, d, finish, api.Reply{Verdict: final(api.Latin, api.ByNone), Out: []int{-1, 255, 0x2080}})
	check(t, d, ask, api.Reply{Verdict: final(api.Latin, api.ByNone)})
}

// P6.4: at the end every verdict is final, also where a mark was still
// possible.
func TestVerdictAtTheEnd(t *testing.T) {
	for _, hint := range hints {
		for _, s := range samples {
			d := fed(t, hint, s)
			v := wantJudge(label.Find(hint), s)
			v.Final = true
			check(t, d, finish, api.Reply{Verdict: v, Out: wantTell(v.Encoding, s)})
			check(t, d, ask, api.Reply{Verdict: v})
		}
	}
}

// A verdict that was reported as final does not change, and how the bytes are
// divided does not matter.
func TestFinalDoesNotChange(t *testing.T) {
	for _, hint := range hints {
		for _, a := range samples {
			for _, b := range samples {
				checkDivided(t, hint, a+b)
			}
		}
	}
}

// checkDivided feeds bytes at once, and also so that the verdict is asked for
// behind each of the first few and behind all.
func checkDivided(t *testing.T, hint, s string) {
	t.Helper()
	want := fed(t, hint, s).Do(finish)
	d := New(hint)
	before := api.Verdict{}
	for i := range len(s) + 1 {
		if i > 30 {
			check(t, d, feed(s[i-1:]), api.Reply{})
			break
		}
		if i > 0 {
			check(t, d, feed(s[i-1:i]), api.Reply{})
		}
		v := d.Do(ask).Verdict
		if before.Final && v != before {
			t.Fatalf("hint %q, %q: %+v, but it was %+v", hint, s[:i], v, before)
		}
		before = v
	}
	got := d.Do(finish)
	if !equal(got, want) || before.Final && got.Verdict != before {
		t.Fatalf("hint %q, %q: %s, at once %s, before %+v", hint, s, brief(got), brief(want), before)
	}
}

// In an encoding that was found by scores, no byte is Bad.
func TestNoBadByScore(t *testing.T) {
	for i := range 1 << 16 {
		d := fed(t, "", string([]byte{byte(i >> 8), byte(i)}))
		if r := d.Do(finish); r.Verdict.By == api.ByScore && slices.Contains(r.Out, api.Bad) {
			t.Fatalf("%q: %v", d.Bytes(), r)
		}
	}
}

// P6.5: ActFinish decodes without the mark, in the encoding of the verdict.
func TestFinish(t *testing.T) {
	for _, c := range []struct {
		hint, bytes string
		want        api.Verdict
		out         []int
	}{
		{"", "", final(api.Utf, api.ByScore), nil},
		{"", "plain", final(api.Utf, api.ByScore), []int{'p', 'l', 'a', 'i', 'n'}},
		{"twin", "\xef\xbb\xbfa", final(api.Utf, api.ByMark), []int{'a'}},
		{"utf-16", "\xff\xfea\x00", final(api.Low, api.ByMark), []int{'a'}},
		{"utf-16", "\xfe\xff\x00a", final(api.High, api.ByMark), []int{'a'}},
		{"utf-16be", "\x00a\xfe\xff", final(api.High, api.ByHint), []int{'a', 0xFEFF}},
		{"utf8", "\xef\xbb", final(api.Utf, api.ByHint), []int{-1}},
		{"twin", "\x81\x40\x81", final(api.Twin, api.ByHint), []int{0x4E00, -1}},
		{"", "\xfe\xff", final(api.High, api.ByMark), nil},
		{"", "\x1b$B!!", final(api.Shift, api.ByScore), []int{0x3000}},
	} {
		d := fed(t, c.hint, c.bytes)
		check(t, d, api.Act{Kind: api.ActFinish, Bytes: "ignored"}, api.Reply{Verdict: c.want, Out: c.out})
		if d.Bytes() != c.bytes {
			t.Errorf("%q became %q", c.bytes, d.Bytes())
		}
	}
}

// P6.5: ActAsk has no output and no effect, before and after the end.
func TestAsk(t *testing.T) {
	d := fed(t, "", "a\x00b\x00")
	for range 3 {
		check(t, d, api.Act{Kind: api.ActAsk, Bytes: "ignored"}, api.Reply{Verdict: verdict(api.Low, api.ByScore)})
	}
	check(t, d, finish, api.Reply{Verdict: final(api.Low, api.ByScore), Out: []int{'a', 'b'}})
	for range 3 {
		check(t, d, api.Act{Kind: api.ActAsk, Bytes: "ignored"}, api.Reply{Verdict: final(api.Low, api.ByScore)})
	}
}

// P6.5: numbers that are no kind, before and after the end.
func TestErrKind(t *testing.T) {
	d := fed(t, "", "a")
	for range 2 {
		for _, kind := range []int{0, -1, 4, -2, 256 + 1, 1<<32 + 1, 1<<32 + 3, math.MaxInt64, math.MinInt64} {
			checkError(t, d, api.Act{Kind: kind, Bytes: strings.Repeat("a", 5000)}, api.ErrKind)
		}
		d.Do(finish)
	}
}

// P6.5: after the end nothing is fed, not even nothing, and there is no
// second end. ErrEnded comes before ErrLong.
func TestErrEnded(t *testing.T) {
	d := fed(t, "", "plain")
	check(t, d, finish, api.Reply{Verdict: final(api.Utf, api.ByScore), Out: []int{'p', 'l', 'a', 'i', 'n'}})
	for _, s := range []string{"", "a", strings.Repeat("a", api.MaxBytes), strings.Repeat("a", api.MaxBytes+1)} {
		checkError(t, d, feed(s), api.ErrEnded)
	}
	checkError(t, d, finish, api.ErrEnded)
	check(t, d, ask, api.Reply{Verdict: final(api.Utf, api.ByScore)})
}

// P6.5: the limit is on all bytes together. What exceeds it is not fed at all,
// and something shorter still may be.
func TestErrLong(t *testing.T) {
	full := strings.Repeat("a", api.MaxBytes)
	d := New("")
	checkError(t, d, feed(full+"a"), api.ErrLong)
	checkError(t, d, feed(strings.Repeat(full, 50)), api.ErrLong)
	check(t, d, feed(full[1:]), api.Reply{})
	checkError(t, d, feed("bc"), api.ErrLong)
	check(t, d, feed("b"), api.Reply{})
	checkError(t, d, feed("c"), api.ErrLong)
	check(t, d, feed(""), api.Reply{})
	if d.Bytes() != full[1:]+"b" {
		t.Errorf("%d bytes", len(d.Bytes()))
	}
	check(t, d, finish, api.Reply{Verdict: final(api.Utf, api.ByScore), Out: Tell(api.Utf, full[1:]+"b")})
	check(t, fed(t, "", full), finish, api.Reply{Verdict: final(api.Utf, api.ByScore), Out: Tell(api.Utf, full)})
}

// P6.5: a mark counts towards the limit of a stream.
func TestErrLongMark(t *testing.T) {
	d := fed(t, "", "\xef\xbb\xbf")
	checkError(t, d, feed(strings.Repeat("a", api.MaxBytes-2)), api.ErrLong)
	check(t, d, feed(strings.Repeat("a", api.MaxBytes-3)), api.Reply{})
	if r := d.Do(finish); len(r.Out) != api.MaxBytes-3 || r.Verdict != final(api.Utf, api.ByMark) {
		t.Errorf("%d code points, %+v", len(r.Out), r.Verdict)
	}
}

// P6.5: each action counts, whatever its reply is. ErrFull comes before every
// other error, and nothing is done any more.
func TestErrFull(t *testing.T) {
	for _, c := range []struct {
		act  api.Act
		code api.Errno
	}{
		{ask, api.OK},
		{feed(""), api.OK},
		{feed("a"), api.OK},
		{feed(strings.Repeat("a", api.MaxBytes+1)), api.ErrLong},
		{api.Act{Kind: 4}, api.ErrKind},
		{api.Act{}, api.ErrKind},
	} {
		d := New("")
		for i := range api.MaxActs {
			if r := d.Do(c.act); r.Code != c.code {
				t.Fatalf("action %d of kind %d: %d", i, c.act.Kind, r.Code)
			}
		}
		checkFull(t, d)
	}
}

// P6.5: actions after the end count too.
func TestErrFullAfterTheEnd(t *testing.T) {
	for _, c := range []struct {
		act  api.Act
		code api.Errno
	}{
		{ask, api.OK},
		{feed("a"), api.ErrEnded},
		{finish, api.ErrEnded},
	} {
		d := New("")
		d.Do(finish)
		for i := range api.MaxActs - 1 {
			if r := d.Do(c.act); r.Code != c.code {
				t.Fatalf("action %d of kind %d: %d", i, c.act.Kind, r.Code)
			}
		}
		checkFull(t, d)
	}
}

func checkFull(t *testing.T, d *Detector) {
	t.Helper()
	for range api.MaxActs + 1 {
		for _, a := range []api.Act{ask, finish, feed(""), feed("a"), feed(strings.Repeat("a", api.MaxBytes+1)), {}, {Kind: 4}} {
			checkError(t, d, a, api.ErrFull)
		}
	}
}

// P6.5: the last action that counts is performed like any other.
func TestLastAction(t *testing.T) {
	d := New("")
	for range api.MaxActs - 1 {
		check(t, d, feed("a"), api.Reply{})
	}
	check(t, d, finish, api.Reply{Verdict: final(api.Utf, api.ByScore), Out: Tell(api.Utf, strings.Repeat("a", api.MaxActs-1))})
	checkFull(t, d)
}

// P6.5: a reply is new memory.
func TestRepliesAreNew(t *testing.T) {
	l := []api.Act{feed("abc"), ask, finish}
	first, _ := Run("", l)
	for i := range first[2].Out {
		first[2].Out[i] = 7
	}
	if second, _ := Run("", l); !slices.Equal(second[2].Out, []int{'a', 'b', 'c'}) {
		t.Errorf("%v", second)
	}
}

// P6.6: one reply for each action, errors among them.
func TestRun(t *testing.T) {
	checkRun(t, "twin", []api.Act{ask, feed("\x81"), ask, {Kind: 9}, feed("\x40"), finish, finish, ask, feed("a")}, []api.Reply{
		{Verdict: verdict(api.Twin, api.ByHint)},
		{},
		{Verdict: final(api.Twin, api.ByHint)},
		{Code: api.ErrKind},
		{},
		{Verdict: final(api.Twin, api.ByHint), Out: []int{0x4E00}},
		{Code: api.ErrEnded},
		{Verdict: final(api.Twin, api.ByHint)},
		{Code: api.ErrEnded},
	})
	checkRun(t, "", []api.Act{finish}, []api.Reply{{Verdict: final(api.Utf, api.ByScore)}})
	checkRun(t, "", nil, nil)
	checkRun(t, "", []api.Act{}, nil)
}

// P6.6: the examples of the document.
func TestExamples(t *testing.T) {
	checkRun(t, "", []api.Act{feed("\xff\xfe"), ask}, []api.Reply{{}, {Verdict: final(api.Low, api.ByMark)}})
	checkRun(t, "", []api.Act{feed("\xef"), feed("\xbb"), ask, feed("\xbfa"), ask, finish}, []api.Reply{
		{}, {}, {Verdict: verdict(api.Low, api.ByScore)}, {}, {Verdict: final(api.Utf, api.ByMark)},
		{Verdict: final(api.Utf, api.ByMark), Out: []int{97}},
	})
	checkRun(t, "", []api.Act{feed("plain text"), ask, finish}, []api.Reply{
		{}, {Verdict: verdict(api.Utf, api.ByScore)},
		{Verdict: final(api.Utf, api.ByScore), Out: []int{'p', 'l', 'a', 'i', 'n', ' ', 't', 'e', 'x', 't'}},
	})
}

// P6.6: the limit, whatever the actions are.
func TestRunErrFull(t *testing.T) {
	for _, n := range []int{api.MaxActs - 1, api.MaxActs} {
		replies, err := Run("", make([]api.Act, n))
		if len(replies) != n || err != api.OK {
			t.Errorf("%d actions: %d replies, %d", n, len(replies), err)
		}
		for i, r := range replies {
			if !equal(r, api.Reply{Code: api.ErrKind}) {
				t.Errorf("%d: %v", i, r)
			}
		}
	}
	for _, n := range []int{api.MaxActs + 1, 2 * api.MaxActs, 100000} {
		if replies, err := Run("latin", slices.Repeat([]api.Act{ask}, n)); len(replies) != 0 || err != api.ErrFull {
			t.Errorf("%d actions: %d replies, %d", n, len(replies), err)
		}
	}
}
