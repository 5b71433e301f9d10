// Package scalar is layer 1: texts as code points, and what may be said of them.
package scalar

import (
	"strings"
	"unicode/utf8"
)

// blank is the greatest byte that Trim takes away.
const blank = 0x20

// Scalars tells a text's code points; each byte that is part of no right UTF-8 is FFFD by itself.
func Scalars(s string) []rune {
	var points []rune
	for _, r := range s {
		points = append(points, r)
	}
	return points
}

// Text tells the UTF-8 of code points, FFFD's for each number that is none.
func Text(l ...rune) string {
	var out []byte
	for _, r := range l {
		out = utf8.AppendRune(out, r)
	}
	return string(out)
}

// Plain tells whether all bytes are below 80 (base 16).
func Plain(s string) bool {
	for i := range len(s) {
		if s[i] >= utf8.RuneSelf {
			return false
		}
	}
	return true
}

// Lower tells the text with a to z for A to Z. It goes byte by byte, since the
// library's ToLower changes other letters, and bytes that are no right UTF-8, too.
func Lower(s string) string {
	out := []byte(s)
	for i, c := range out {
		if 'A' <= c && c <= 'Z' {
			out[i] = c - 'A' + 'a'
		}
	}
	return string(out)
}

// Digit tells whether it is 0 to 9.
func Digit(r rune) bool {
	return '0' <= r && r <= '9'
}

// Alpha tells whether it is a to z, or A to Z.
func Alpha(r rune) bool {
	return 'a' <= r && r <= 'z' || 'A' <= r && r <= 'Z'
}

// Value tells what a digit to the base 16 counts; -1 of what is none.
func Value(r rune) int {
	switch {
	case Digit(r):
		return int(r - '0')
	case 'a' <= r && r <= 'f':
		return int(r-'a') + 10
	case 'A' <= r && r <= 'F':
		return int(r-'A') + 10
	}
	return -1
}

// Trim tells the text without the blanks and controls that it begins, and ends, with.
func Trim(s string) string {
	from, to := 0, len(s)
	for from < to && s[from] <= blank {
		from++
	}
	for from < to && s[to-1] <= blank {
		to--
	}
	return s[from:to]
}

// Drop tells the text without its tabs, line feeds and carriage returns.
func Drop(s string) string {
	var out []byte
	for i := range len(s) {
		if c := s[i]; c != '\t' && c != '\n' && c != '\r' {
			out = append(out, c)
		}
	}
	return string(out)
}

// Split tells the parts between each byte that is one of the bytes of at. Both
// are looked at as bytes, not as code points, so the library's IndexAny doesn't do.
func Split(s string, at string) []string {
	var parts []string
	from := 0
	for i := range len(s) {
		if strings.IndexByte(at, s[i]) >= 0 {
			parts = append(parts, s[from:i])
			from = i + 1
		}
	}
	return append(parts, s[from:])
}
