package auto

import "plumbline/api"

// The states of Low: before a unit or in the middle of it, without and with a
// first half of a pair before this unit.
const (
	lowMiddle     = 1
	lowHalf       = 2
	lowHalfMiddle = 3
)

func low(s, b int) int {
	switch s {
	case start:
		return lowMiddle
	case lowMiddle:
		return wideUnit(b, start, lowHalf)
	case lowHalf:
		return lowHalfMiddle
	case lowHalfMiddle:
		return within(b, 0xDC, 0xDF, start)
	}
	return api.Never
}

// The states of High. The second byte of a unit only has to be there, so the
// last byte of a pair needs no state besides highMiddle.
const (
	highMiddle     = 1
	highHalfMiddle = 2
	highHalf       = 3
)

func high(s, b int) int {
	switch s {
	case start:
		return wideUnit(b, highMiddle, highHalfMiddle)
	case highMiddle:
		return start
	case highHalfMiddle:
		return highHalf
	case highHalf:
		return within(b, 0xDC, 0xDF, highMiddle)
	}
	return api.Never
}

// wideUnit chooses by the more significant byte of a unit that has no half
// before it: a whole code point, a first half, or a second half, which would
// be alone.
func wideUnit(b, whole, half int) int {
	switch {
	case b < 0xD8 || b > 0xDF:
		return whole
	case b < 0xDC:
		return half
	}
	return api.Never
}
