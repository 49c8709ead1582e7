package detect

import (
	"plumbline/api"
	"plumbline/decode"
	"plumbline/score"
	"plumbline/sniff"
)

// Judge returns the verdict on bytes as a whole, where hint is the encoding
// that was supplied with them, or any other number. It does not say whether
// the verdict is final: this depends on whether further bytes may follow.
func Judge(hint int, s string) api.Verdict {
	if e, _ := sniff.Mark(s); e != api.None {
		return api.Verdict{Encoding: e, By: api.ByMark}
	}
	if api.Utf <= hint && hint <= api.High {
		return api.Verdict{Encoding: hint, By: api.ByHint}
	}
	if e, _ := sniff.Label(s); e != api.None {
		return api.Verdict{Encoding: e, By: api.ByLabel}
	}
	if e := score.Whole(s); e != api.None {
		return api.Verdict{Encoding: e, By: api.ByScore}
	}
	return api.Verdict{Encoding: api.Latin, By: api.ByNone}
}

// Tell returns the code points of bytes in the encoding e, or nothing if they
// cannot be decoded. A mark of another encoding is not a mark in this one, and
// is decoded; a mark of this one does not count towards the limit.
func Tell(e int, s string) []int {
	if marked, n := sniff.Mark(s); marked == e {
		s = s[n:]
	}
	out, err := decode.Whole(e, s)
	if err != api.OK {
		return nil
	}
	return out
}
