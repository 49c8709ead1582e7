package auto

import "plumbline/api"

// The states of Shift besides single mode, which is start. An escape sequence
// has the same states in both modes, because what it selects does not depend
// on the mode and an incomplete one is never valid.
const (
	shiftDouble   = 1
	shiftHalf     = 2 // between the two bytes of a code point
	shiftEscape   = 3
	shiftToSingle = 4
	shiftToDouble = 5
)

const escape = 27

func shift(s, b int) int {
	switch s {
	case start:
		return shiftOne(b)
	case shiftDouble:
		return shiftFirst(b)
	case shiftHalf:
		return within(b, 33, 126, shiftDouble)
	case shiftEscape:
		return shiftMode(b)
	case shiftToSingle:
		return within(b, 'B', 'B', start)
	case shiftToDouble:
		return within(b, 'B', 'B', shiftDouble)
	}
	return api.Never
}

func shiftOne(b int) int {
	switch {
	case b == escape:
		return shiftEscape
	case b == 14 || b == 15 || b > 127:
		return api.Never
	}
	return start
}

func shiftFirst(b int) int {
	switch {
	case b == escape:
		return shiftEscape
	case b == 10:
		return start
	}
	return within(b, 33, 126, shiftHalf)
}

func shiftMode(b int) int {
	switch b {
	case '(':
		return shiftToSingle
	case '$':
		return shiftToDouble
	}
	return api.Never
}
