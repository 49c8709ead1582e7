package decode

import "plumbline/api"

// The functions here follow the document's wording: they look at all bytes
// from the front and ahead, and know no states. The tests compare the package
// with them.

// piece returns how many bytes the piece at the front has, and its output.
type piece func(l []byte) (int, []int)

func oracle(e int, bytes string) []int {
	l := []byte(bytes)
	if e == api.Shift {
		return oracleShift(l)
	}
	f := map[int]piece{api.Utf: utfPiece, api.Twin: twinPiece, api.Latin: latinPiece, api.Low: lowPiece, api.High: highPiece}[e]
	out := []int{}
	for len(l) > 0 {
		n, part := f(l)
		out = append(out, part...)
		l = l[n:]
	}
	return out
}

func utfPiece(l []byte) (int, []int) {
	b := int(l[0])
	n, code := 0, 0
	switch {
	case b < 0x80:
		return 1, []int{b}
	case b < 0xC2 || b > 0xF4:
		return 1, []int{-1}
	case b < 0xE0:
		n, code = 2, b%32
	case b < 0xF0:
		n, code = 3, b%16
	default:
		n, code = 4, b%8
	}
	for i := 1; i < n; i++ {
		if i >= len(l) || !utfFollows(b, i, int(l[i])) {
			return i, []int{-1}
		}
		code = 64*code + int(l[i]) - 0x80
	}
	return n, []int{code}
}

func utfFollows(first, i, c int) bool {
	if c < 0x80 || c > 0xBF {
		return false
	}
	if i > 1 {
		return true
	}
	return !(first == 0xE0 && c < 0xA0 || first == 0xED && c > 0x9F || first == 0xF0 && c < 0x90 || first == 0xF4 && c > 0x8F)
}

func latinPiece(l []byte) (int, []int) {
	switch b := int(l[0]); {
	case b < 128, b >= 160:
		return 1, []int{b}
	case b == 129, b == 141, b == 143, b == 144, b == 157:
		return 1, []int{-1}
	default:
		return 1, []int{0x2000 + b}
	}
}

func twinPiece(l []byte) (int, []int) {
	b := int(l[0])
	switch {
	case b < 128:
		return 1, []int{b}
	case 161 <= b && b <= 223:
		return 1, []int{0xFF61 + b - 161}
	case b < 129 || b > 159 || len(l) == 1:
		return 1, []int{-1}
	}
	c := int(l[1])
	switch {
	case 64 <= c && c <= 126:
		return 2, []int{0x4E00 + 188*(b-129) + c - 64}
	case 128 <= c && c <= 252:
		return 2, []int{0x4E00 + 188*(b-129) + c - 65}
	case c > 127:
		return 2, []int{-1}
	}
	return 1, []int{-1}
}

func lowPiece(l []byte) (int, []int) {
	return unitPiece(l, func(a, b byte) int { return int(a) + 256*int(b) })
}

func highPiece(l []byte) (int, []int) {
	return unitPiece(l, func(a, b byte) int { return 256*int(a) + int(b) })
}

func unitPiece(l []byte, unit func(a, b byte) int) (int, []int) {
	if len(l) == 1 {
		return 1, []int{-1}
	}
	u := unit(l[0], l[1])
	switch {
	case 0xDC00 <= u && u <= 0xDFFF:
		return 2, []int{-1}
	case u < 0xD800 || u > 0xDBFF:
		return 2, []int{u}
	case len(l) < 4:
		return len(l), []int{-1}
	}
	v := unit(l[2], l[3])
	if v < 0xDC00 || v > 0xDFFF {
		return 2, []int{-1}
	}
	return 4, []int{0x10000 + 1024*(u-0xD800) + v - 0xDC00}
}

func oracleShift(l []byte) []int {
	out := []int{}
	inDouble := false
	for len(l) > 0 {
		if len(l) >= 3 && l[0] == 27 && l[2] == 'B' && (l[1] == '(' || l[1] == '$') {
			inDouble = l[1] == '$'
			l = l[3:]
			continue
		}
		n, part := 1, -1
		switch {
		case l[0] == 27:
		case inDouble:
			n, part = doublePiece(l)
			inDouble = l[0] != 10
		case l[0] != 14 && l[0] != 15 && l[0] <= 127:
			part = int(l[0])
		}
		out = append(out, part)
		l = l[n:]
	}
	return out
}

func doublePiece(l []byte) (int, int) {
	isHalf := func(b byte) bool { return b >= 33 && b <= 126 }
	switch {
	case l[0] == 10:
		return 1, 10
	case !isHalf(l[0]), len(l) == 1, l[1] == 27:
		return 1, -1
	case !isHalf(l[1]):
		return 2, -1
	}
	return 2, 0x3000 + 94*(int(l[0])-33) + int(l[1]) - 33
}
