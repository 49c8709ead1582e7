package decode

import "plumbline/api"

const (
	escape = 27

	// Modes of Shift. The initial one is that of the zero state.
	single = 0
	double = 1
)

// Shift keeps what may become an escape sequence, and in double mode the first
// of two bytes.
func goodShift(s api.State) bool {
	if s != (api.State{Kept: s.Kept, Mode: s.Mode}) || s.Mode != single && s.Mode != double {
		return false
	}
	switch s.Kept {
	case "", "\x1b", "\x1b(", "\x1b$":
		return true
	}
	return s.Mode == double && len(s.Kept) == 1 && isHalf(int(s.Kept[0]))
}

// isHalf reports whether a byte may be one of the two bytes of a code point.
func isHalf(b int) bool {
	return b >= 33 && b <= 126
}

func offerShift(s api.State, b int) (next api.State, out []int, again bool) {
	switch {
	case s.Kept == "":
		next, out = firstShift(s.Mode, b)
		return next, out, false
	case s.Kept[0] == escape:
		return offerEscape(s, b)
	}
	out, again = secondShift(int(s.Kept[0]), b)
	return api.State{Mode: s.Mode}, out, again
}

func firstShift(mode, b int) (api.State, []int) {
	switch {
	case b == escape:
		return api.State{Kept: keep(b), Mode: mode}, nil
	case mode == double:
		return firstDouble(b)
	case b == 14 || b == 15 || b > 127:
		return api.State{}, bad()
	}
	return api.State{}, []int{b}
}

func firstDouble(b int) (api.State, []int) {
	switch {
	case b == 10:
		return api.State{Mode: single}, []int{b}
	case isHalf(b):
		return api.State{Kept: keep(b), Mode: double}, nil
	}
	return api.State{Mode: double}, bad()
}

// secondShift reports with again that c begins something new: only an escape
// does, and every other byte belongs to what b began.
func secondShift(b, c int) (out []int, again bool) {
	if isHalf(c) {
		return []int{0x3000 + 94*(b-33) + c - 33}, false
	}
	return bad(), c == escape
}

// offerEscape processes a byte after a kept escape, and perhaps one byte more.
// If they are no escape sequence, the escape alone is Bad.
func offerEscape(s api.State, b int) (next api.State, out []int, again bool) {
	switch s.Kept + keep(b) {
	case "\x1b(", "\x1b$":
		return api.State{Kept: s.Kept + keep(b), Mode: s.Mode}, nil, false
	case "\x1b(B":
		return api.State{Mode: single}, nil, false
	case "\x1b$B":
		return api.State{Mode: double}, nil, false
	}
	next, out = dropEscape(s)
	return next, out, true
}

// dropEscape outputs the Bad of a kept escape, and returns the state after the
// byte that was kept behind it, if any.
func dropEscape(s api.State) (api.State, []int) {
	if len(s.Kept) == 1 {
		return api.State{Mode: s.Mode}, bad()
	}
	next, out := firstShift(s.Mode, int(s.Kept[1]))
	return next, append(bad(), out...)
}

func finishShift(s api.State) []int {
	if s.Kept == "" {
		return nil
	}
	if s.Kept[0] != escape {
		return bad()
	}
	rest, out := dropEscape(s)
	if rest.Kept != "" {
		out = append(out, api.Bad)
	}
	return out
}
