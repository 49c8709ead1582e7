package auto

import "plumbline/api"

// The states of Utf within a sequence: how many bytes are missing, or the
// first byte where it restricts the second one.
const (
	utfOne   = 1
	utfTwo   = 2
	utfThree = 3
	utfE0    = 4
	utfED    = 5
	utfF0    = 6
	utfF4    = 7
)

func utf(s, b int) int {
	switch s {
	case start:
		return utfFirst(b)
	case utfOne:
		return within(b, 0x80, 0xBF, start)
	case utfTwo:
		return within(b, 0x80, 0xBF, utfOne)
	case utfThree:
		return within(b, 0x80, 0xBF, utfTwo)
	case utfE0:
		return within(b, 0xA0, 0xBF, utfOne)
	case utfED:
		return within(b, 0x80, 0x9F, utfOne)
	case utfF0:
		return within(b, 0x90, 0xBF, utfTwo)
	case utfF4:
		return within(b, 0x80, 0x8F, utfTwo)
	}
	return api.Never
}

func utfFirst(b int) int {
	switch {
	case b < 0x80:
		return start
	case b < 0xC2:
		return api.Never
	case b < 0xE0:
		return utfOne
	case b == 0xE0:
		return utfE0
	case b == 0xED:
		return utfED
	case b < 0xF0:
		return utfTwo
	case b == 0xF0:
		return utfF0
	case b < 0xF4:
		return utfThree
	case b == 0xF4:
		return utfF4
	}
	return api.Never
}
