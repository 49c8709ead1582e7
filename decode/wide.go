package decode

import "plumbline/api"

// Low and High keep the first byte of a unit (Kept), and a unit that waits for
// the second unit of its pair (Half).

// told is the mode of High in which the kept byte belongs to a Bad that has
// been output, or would belong to it if the bytes ended here.
const told = 1

// leads reports whether a unit is the first one of a pair.
func leads(u int) bool {
	return u>>10 == 0xD800>>10
}

// trails reports whether a unit is the second one of a pair.
func trails(u int) bool {
	return u>>10 == 0xDC00>>10
}

// trailsByte reports whether units with this more significant byte are second
// ones of a pair, whatever their other byte is.
func trailsByte(b int) bool {
	return b>>2 == 0xDC>>2
}

func goodLow(s api.State) bool {
	return s == api.State{Kept: s.Kept, Half: s.Half} && len(s.Kept) <= 1 && goodHalf(s.Half)
}

func goodHalf(half int) bool {
	return half == 0 || leads(half)
}

func goodHigh(s api.State) bool {
	switch {
	case s.Kept == "":
		return s == api.State{Half: s.Half} && goodHalf(s.Half)
	case len(s.Kept) > 1:
		return false
	case s.Mode == told:
		return s == api.State{Kept: s.Kept, Mode: told}
	}
	// Any other kept byte would have settled a Bad: see firstHigh.
	waiting := s.Half != 0
	return goodLow(s) && waiting == trailsByte(int(s.Kept[0]))
}

func offerLow(s api.State, b int) (next api.State, out []int, again bool) {
	if s.Kept == "" {
		return api.State{Kept: keep(b), Half: s.Half}, nil, false
	}
	return offerUnit(s, b<<8|int(s.Kept[0]))
}

func offerHigh(s api.State, b int) (next api.State, out []int, again bool) {
	if s.Kept == "" {
		next, out = firstHigh(s, b)
		return next, out, false
	}
	next, out, again = offerUnit(s, int(s.Kept[0])<<8|b)
	if s.Mode == told && trailsByte(int(s.Kept[0])) {
		out = nil
	}
	return next, out, again
}

// firstHigh outputs a Bad as soon as the more significant byte settles it: a
// half that this byte cannot complete is Bad, and so is a second unit without
// a half. Both are one Bad also if the bytes end here.
func firstHigh(s api.State, b int) (api.State, []int) {
	waiting := s.Half != 0
	if waiting == trailsByte(b) {
		return api.State{Kept: keep(b), Half: s.Half}, nil
	}
	return api.State{Kept: keep(b), Mode: told}, bad()
}

// offerUnit processes the unit u that the kept byte and the next one form. A
// half without its partner is Bad by itself: then the byte is processed again
// without the half.
func offerUnit(s api.State, u int) (next api.State, out []int, again bool) {
	switch {
	case s.Half != 0 && trails(u):
		out = []int{0x10000 + (s.Half&0x3FF)<<10 + u&0x3FF}
	case s.Half != 0:
		return api.State{Kept: s.Kept}, bad(), true
	case leads(u):
		next.Half = u
	case trails(u):
		out = bad()
	default:
		out = []int{u}
	}
	return next, out, false
}

func finishHigh(s api.State) []int {
	if s.Mode == told {
		return nil
	}
	return bad()
}
