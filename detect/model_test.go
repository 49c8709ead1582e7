package detect

import (
	"slices"
	"strings"
	"testing"

	"plumbline/api"
	"plumbline/label"
	"plumbline/sniff"
)

// model is P6.4 and P6.5 word for word. It keeps the actions and reads
// everything else off them.
type model struct {
	hint string
	done []api.Act
	told []api.Reply
}

func (m *model) ended() bool {
	for i, a := range m.done {
		if a.Kind == api.ActFinish && m.told[i].Code == api.OK {
			return true
		}
	}
	return false
}

func (m *model) bytes() string {
	var parts []string
	for i, a := range m.done {
		if a.Kind == api.ActFeed && m.told[i].Code == api.OK {
			parts = append(parts, a.Bytes)
		}
	}
	return strings.Join(parts, "")
}

func (m *model) verdict(ended bool) api.Verdict {
	v := wantJudge(label.Find(m.hint), m.bytes())
	v.Final = ended || v.By == api.ByMark ||
		(v.By == api.ByHint || v.By == api.ByLabel) && !sniff.MayMark(m.bytes())
	return v
}

func (m *model) reply(a api.Act) api.Reply {
	switch {
	case len(m.done) >= api.MaxActs:
		return api.Reply{Code: api.ErrFull}
	case a.Kind != api.ActFeed && a.Kind != api.ActAsk && a.Kind != api.ActFinish:
		return api.Reply{Code: api.ErrKind}
	case a.Kind == api.ActAsk:
		return api.Reply{Verdict: m.verdict(m.ended())}
	case m.ended():
		return api.Reply{Code: api.ErrEnded}
	case a.Kind == api.ActFeed && len(m.bytes()+a.Bytes) > api.MaxBytes:
		return api.Reply{Code: api.ErrLong}
	case a.Kind == api.ActFeed:
		return api.Reply{}
	}
	v := m.verdict(true)
	return api.Reply{Verdict: v, Out: wantTell(v.Encoding, m.bytes())}
}

func (m *model) do(a api.Act) api.Reply {
	r := m.reply(a)
	m.done, m.told = append(m.done, a), append(m.told, r)
	return r
}

func equal(a, b api.Reply) bool {
	return a.Code == b.Code && a.Verdict == b.Verdict && slices.Equal(a.Out, b.Out)
}

// picker returns a function that picks a number below n, the same ones in
// every run.
func picker(seed uint32) func(n int) int {
	return func(n int) int {
		seed = seed*1664525 + 1013904223
		return int(seed>>8) % n
	}
}

var hints = []string{"", "none", "utf8", " SHIFT ", "twin", "latin1", "utf-16", "utf-16be", "twin" + strings.Repeat(" ", 40)}

// parts has long ones, so that the limit is reached.
var parts = append([]string{
	"\xbb", "\xbf", "\xfe\xff", "char", "set=", "tw", "in", ";", "\"", " ", strings.Repeat("ab", 900), strings.Repeat("\x81\xff\x8d", 500),
}, samples...)

// acts is a list of n actions. Few of them end the stream.
func acts(pick func(n int) int, n int) []api.Act {
	l := make([]api.Act, n)
	for i := range l {
		l[i].Kind = []int{1, 1, 1, 1, 1, 1, 1, 2, 2, 2, 2, 0, -1, 4, 1 << 32}[pick(15)]
		if pick(20) == 0 {
			l[i].Kind = api.ActFinish
		}
		if pick(8) > 0 {
			l[i].Bytes = parts[pick(len(parts))]
		}
	}
	return l
}

// P6.1, P6.4, P6.5, P6.6: many lists of actions, by Do and by Run.
func TestAgainstModel(t *testing.T) {
	pick := picker(6)
	for range 3000 {
		hint := hints[pick(len(hints))]
		l := acts(pick, pick(25))
		if pick(100) == 0 {
			l = acts(pick, api.MaxActs+pick(20)-10)
		}
		d, m := New(hint), &model{hint: hint}
		for i, a := range l {
			got, want := d.Do(a), m.do(a)
			if !equal(got, want) || d.Bytes() != m.bytes() {
				t.Fatalf("hint %q, action %d: %s, want %s", hint, i, brief(got), brief(want))
			}
		}
		checkRun(t, hint, l, m.told)
	}
}

func checkRun(t *testing.T, hint string, l []api.Act, want []api.Reply) {
	t.Helper()
	before := slices.Clone(l)
	got, err := Run(hint, l)
	if !slices.Equal(l, before) {
		t.Fatalf("hint %q: Run changes the actions", hint)
	}
	if len(l) > api.MaxActs {
		if len(got) != 0 || err != api.ErrFull {
			t.Fatalf("hint %q: %d replies to %d actions, %d", hint, len(got), len(l), err)
		}
		return
	}
	if err != api.OK || !slices.EqualFunc(got, want, equal) {
		t.Fatalf("hint %q: %s, %d, want %s", hint, brief(got), err, brief(want))
	}
}
