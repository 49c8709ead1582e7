package score

import "plumbline/api"

// The classes of bytes. Those before control are what plain text consists of.
const (
	letter  = 0
	space   = 1
	digit   = 2
	sign    = 3
	control = 4
	third   = 5 // the third quarter of the bytes
	fourth  = 6
)

const escape = 27

// Class returns the class of the byte b.
func Class(b int) int {
	switch {
	case 'a' <= b && b <= 'z' || 'A' <= b && b <= 'Z':
		return letter
	case b == 32 || b == 9 || b == 10 || b == 13:
		return space
	case '0' <= b && b <= '9':
		return digit
	case 0 <= b && b < 32 || b == 127:
		return control
	case 128 <= b && b < 192:
		return third
	case b >= 192:
		return fourth
	}
	return sign
}

// Weight returns how much the byte a followed by the byte b speaks for the
// encoding e.
func Weight(e, a, b int) int {
	first, second := Class(a), Class(b)
	switch e {
	case api.Utf:
		return utf(first, second)
	case api.Shift:
		if a == escape || b == escape {
			return 8
		}
		return ifPlain(first, second, 1)
	case api.Twin:
		return twin(first, second)
	case api.Latin:
		return latin(first, second)
	case api.Low:
		return textAndControl(first, second)
	case api.High:
		return textAndControl(second, first)
	}
	return 0
}

// The following functions have the classes of two bytes as arguments.

func utf(first, second int) int {
	if first == fourth && second == third {
		return 6
	}
	return ifPlain(first, second, 2)
}

func twin(first, second int) int {
	if first == third && second != control {
		return 4
	}
	return ifPlain(first, second, 2)
}

func latin(first, second int) int {
	switch {
	case first == letter && second == fourth || first == fourth && second == letter:
		return 5
	case isPlain(first, second):
		return 2
	}
	return -1
}

// textAndControl is the weight of a unit of two bytes whose lower one is text
// and whose higher one is mostly 0.
func textAndControl(lower, higher int) int {
	if lower < control && higher == control {
		return 4
	}
	return 0
}

func ifPlain(first, second, weight int) int {
	if isPlain(first, second) {
		return weight
	}
	return 0
}

func isPlain(first, second int) bool {
	return first < control && second < control
}
