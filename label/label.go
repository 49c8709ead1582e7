// Package label maps encoding labels to encodings and encodings to their
// names: see ../../shared/doc/01-label.md.
package label

import (
	"strings"

	"plumbline/api"
)

// The vertical tab (11) is deliberately not among the spaces of a label.
const spaces = " \t\n\f\r"

// Trim returns s without the spaces around it, in lower case.
func Trim(s string) string {
	return lower(strings.Trim(s, spaces))
}

// lower changes single bytes: strings.ToLower would also change letters
// beyond A to Z and replace bytes that are not UTF-8.
func lower(s string) string {
	out := []byte(s)
	for i, b := range out {
		if 'A' <= b && b <= 'Z' {
			out[i] = b + 'a' - 'A'
		}
	}
	return string(out)
}

// Find returns the encoding that a label stands for, or None.
func Find(s string) int {
	// The limit is on the label as it was given, spaces included.
	if len(s) > api.MaxLabel {
		return api.None
	}
	switch Trim(s) {
	case "utf-8", "utf8", "unicode-1-1-utf-8":
		return api.Utf
	case "shift", "iso-2022":
		return api.Shift
	case "twin", "x-twin", "ms_twin":
		return api.Twin
	case "latin", "latin1", "ascii", "us-ascii", "windows-1252":
		return api.Latin
	case "utf-16", "utf-16le":
		return api.Low
	case "utf-16be":
		return api.High
	}
	return api.None
}

// Name returns the name of an encoding, or the empty string for any other
// number.
func Name(e int) string {
	names := [api.High + 1]string{
		api.Utf:   "utf-8",
		api.Shift: "shift",
		api.Twin:  "twin",
		api.Latin: "latin",
		api.Low:   "utf-16le",
		api.High:  "utf-16be",
	}
	if e < 0 || e >= len(names) {
		return ""
	}
	return names[e]
}
