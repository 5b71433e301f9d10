// Package percent is layer 2: bytes as % and two digits.
package percent

import (
	"strings"

	"mantrap/scalar"
)

// Set is code points that are written by %.
type Set uint8

// The sets.
const (
	Control Set = iota
	Fragment
	Query
	SpecialQuery
	Path
	Userinfo
)

// What the sets have besides Control's.
const (
	fragmentSigns     = " \"<>`"
	querySigns        = " \"#<>"
	specialQuerySigns = querySigns + "'"
	pathSigns         = querySigns + "?^`{}"
	userinfoSigns     = pathSigns + "/:;=@[\\]|"
)

const digits = "0123456789ABCDEF"

// In tells whether a number is in a set; what is no code point is in all that there are.
func In(s Set, r rune) bool {
	if s > Userinfo {
		return false
	}
	return r <= 0x1F || r > 0x7E || strings.ContainsRune(signs(s), r)
}

func signs(s Set) string {
	switch s {
	case Fragment:
		return fragmentSigns
	case Query:
		return querySigns
	case SpecialQuery:
		return specialQuerySigns
	case Path:
		return pathSigns
	case Userinfo:
		return userinfoSigns
	}
	return ""
}

// Byte tells % and two digits to the base 16, great letters.
func Byte(c byte) string {
	return string([]byte{'%', digits[c>>4], digits[c&0xF]})
}

// Encode tells the text with each byte of the set's code points as Byte tells
// it. What isn't right UTF-8 is FFFD's, even by a set that has no code point.
func Encode(s Set, text string) string {
	var out strings.Builder
	for _, r := range text {
		if !In(s, r) {
			out.WriteRune(r)
			continue
		}
		point := scalar.Text(r)
		for i := range len(point) {
			out.WriteString(Byte(point[i]))
		}
	}
	return out.String()
}

// Decode tells the text with one byte for each % that has two digits behind it.
func Decode(text string) string {
	var out strings.Builder
	for i := 0; i < len(text); i++ {
		c, ok := encoded(text, i)
		if !ok {
			out.WriteByte(text[i])
			continue
		}
		out.WriteByte(c)
		i += 2 // past the digits: a % that was decoded is never looked at again
	}
	return out.String()
}

// Right tells whether two digits stand behind each %.
func Right(text string) bool {
	for i := range len(text) {
		if text[i] != '%' {
			continue
		}
		if _, ok := encoded(text, i); !ok {
			return false
		}
	}
	return true
}

// encoded tells the byte that is written by % and two digits from i on, if one is.
func encoded(text string, i int) (byte, bool) {
	if text[i] != '%' || i+2 >= len(text) {
		return 0, false
	}
	high, low := scalar.Value(rune(text[i+1])), scalar.Value(rune(text[i+2]))
	if high < 0 || low < 0 {
		return 0, false
	}
	return byte(high<<4 | low), true
}
