package auto

import "plumbline/api"

// twinSecond is the state of Twin between the two bytes of a code point.
const twinSecond = 1

func twin(s, b int) int {
	switch s {
	case start:
		return twinFirst(b)
	case twinSecond:
		if b == 127 {
			return api.Never
		}
		return within(b, 64, 252, start)
	}
	return api.Never
}

func twinFirst(b int) int {
	switch {
	case b < 128:
		return start
	case 129 <= b && b <= 159:
		return twinSecond
	}
	return within(b, 161, 223, start)
}

func latin(s, b int) int {
	switch {
	case s != start:
		return api.Never
	case b == 129 || b == 141 || b == 143 || b == 144 || b == 157:
		return api.Never
	}
	return start
}
