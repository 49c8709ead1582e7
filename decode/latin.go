package decode

func latin(b int) []int {
	switch {
	case b < 128 || b >= 160:
		return []int{b}
	case b == 129 || b == 141 || b == 143 || b == 144 || b == 157:
		return bad()
	}
	return []int{0x2000 + b}
}
