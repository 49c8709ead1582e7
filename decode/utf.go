package decode

import "plumbline/api"

// sequence returns the state in which need bytes are missing after those that
// give code. Which bytes may come next depends on the first byte alone, and
// only as long as code is what the first byte gave: later it is too large for
// these cases.
func sequence(need, code int) api.State {
	s := api.State{Need: need, Code: code, From: 0x80, To: 0xBF}
	switch {
	case need == 2 && code == 0x0:
		s.From = 0xA0
	case need == 2 && code == 0xD:
		s.To = 0x9F
	case need == 3 && code == 0:
		s.From = 0x90
	case need == 3 && code == 4:
		s.To = 0x8F
	}
	return s
}

func goodUtf(s api.State) bool {
	if s == (api.State{}) {
		return true
	}
	return reachable(s.Need, s.Code) && s == sequence(s.Need, s.Code)
}

// reachable reports whether the first bytes of a permitted sequence can give
// code while need bytes are missing.
func reachable(need, code int) bool {
	switch need {
	case 1:
		surrogate := code>>5 == 0xD800>>11
		return code >= 0xC2&0x1F && code <= 0x10FFFF>>6 && !surrogate
	case 2:
		return code >= 0 && code <= 0x10FFFF>>12
	case 3:
		return code >= 0 && code <= 0x10FFFF>>18
	}
	return false
}

func offerUtf(s api.State, b int) (next api.State, out []int, again bool) {
	switch {
	case s.Need == 0:
		next, out = firstUtf(b)
	case b < s.From || b > s.To:
		return api.State{}, bad(), true
	case s.Need == 1:
		out = []int{s.Code<<6 | b&0x3F}
	default:
		next = sequence(s.Need-1, s.Code<<6|b&0x3F)
	}
	return next, out, false
}

func firstUtf(b int) (api.State, []int) {
	switch {
	case b < 0x80:
		return api.State{}, []int{b}
	case b >= 0xC2 && b <= 0xDF:
		return sequence(1, b&0x1F), nil
	case b >= 0xE0 && b <= 0xEF:
		return sequence(2, b&0x0F), nil
	case b >= 0xF0 && b <= 0xF4:
		return sequence(3, b&0x07), nil
	}
	return api.State{}, bad()
}
