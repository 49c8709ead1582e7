package decode

import "plumbline/api"

// Twin keeps the first of two bytes.
func goodTwin(s api.State) bool {
	if s != (api.State{Kept: s.Kept}) {
		return false
	}
	return s.Kept == "" || len(s.Kept) == 1 && beginsTwin(int(s.Kept[0]))
}

func beginsTwin(b int) bool {
	return b >= 129 && b <= 159
}

func offerTwin(s api.State, b int) (next api.State, out []int, again bool) {
	if s.Kept == "" {
		next, out = firstTwin(b)
		return next, out, false
	}
	out, again = secondTwin(int(s.Kept[0]), b)
	return api.State{}, out, again
}

func firstTwin(b int) (api.State, []int) {
	switch {
	case b < 128:
		return api.State{}, []int{b}
	case b >= 161 && b <= 223:
		return api.State{}, []int{0xFF61 + b - 161}
	case beginsTwin(b):
		return api.State{Kept: keep(b)}, nil
	}
	return api.State{}, bad()
}

// secondTwin reports with again that c does not belong to the Bad of b.
func secondTwin(b, c int) (out []int, again bool) {
	row := 0x4E00 + 188*(b-129)
	switch {
	case c >= 64 && c <= 126:
		return []int{row + c - 64}, false
	case c >= 128 && c <= 252:
		return []int{row + c - 65}, false
	}
	return bad(), c <= 127
}
