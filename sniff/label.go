package sniff

import (
	"strings"

	"plumbline/api"
	"plumbline/label"
)

const (
	key    = "charset="
	quotes = `"'`
	// The form feed, which Trim removes from a label, does not end a value.
	ends = " \t\n\r;>" + quotes
)

// Label returns the encoding of the first label among the first bytes of s, or
// None, and whether this result holds whatever bytes follow.
func Label(s string) (int, bool) {
	complete := len(s) >= api.Window
	if complete {
		s = s[:api.Window]
	}
	if e := search(s); e != api.None {
		return e, true
	}
	return api.None, complete
}

// search returns the encoding of the first value that is a label, or None. It
// stops where further bytes are needed: what is found behind that position
// might not be the first value any more when they arrive.
func search(s string) int {
	for i := range len(s) {
		found, cut := keyAt(s[i:])
		if cut {
			return api.None
		}
		if !found {
			continue
		}
		value, ended := valueAt(s[i+len(key):])
		if len(value) > api.MaxLabel {
			continue
		}
		if !ended {
			return api.None
		}
		if e := label.Find(value); e != api.None {
			return readable(e)
		}
	}
	return api.None
}

// keyAt reports whether s begins with the key, and whether s is cut off before
// this is certain.
func keyAt(s string) (found, cut bool) {
	for i := range len(key) {
		if i == len(s) {
			return false, true
		}
		if lower(s[i]) != key[i] {
			return false, false
		}
	}
	return true, false
}

func lower(b byte) byte {
	if 'A' <= b && b <= 'Z' {
		return b + 'a' - 'A'
	}
	return b
}

// valueAt returns the value that s begins with, without quotes around it, and
// whether its end is in s: if not, the value is what there is of it so far.
func valueAt(s string) (value string, ended bool) {
	if s != "" && strings.IndexByte(quotes, s[0]) >= 0 {
		return upTo(s[1:], s[:1])
	}
	return upTo(s, ends)
}

// upTo returns the part of s before the first byte that is in set, and whether
// there is such a byte.
func upTo(s, set string) (part string, ended bool) {
	for i := range len(s) {
		if strings.IndexByte(set, s[i]) >= 0 {
			return s[:i], true
		}
	}
	return s, false
}

// readable replaces the encodings of two-byte units: a label that was read as
// single bytes cannot be in one of them.
func readable(e int) int {
	if e == api.Low || e == api.High {
		return api.Utf
	}
	return e
}
