package percent_test

import (
	"strings"
	"testing"

	"mantrap/percent"
	"mantrap/scalar"
)

// signsOf is, set by set, all that it has from 20 to 7E (base 16).
var signsOf = map[percent.Set]string{
	percent.Control:      "",
	percent.Fragment:     " \"<>`",
	percent.Query:        " \"#<>",
	percent.SpecialQuery: " \"#'<>",
	percent.Path:         " \"#<>?^`{}",
	percent.Userinfo:     " \"#/:;<=>?@[\\]^`{|}",
}

// shortTexts hands over the empty text, all of one byte, and all of two.
func shortTexts(do func(s string)) {
	do("")
	for a := range 256 {
		do(string([]byte{byte(a)}))
		for b := range 256 {
			do(string([]byte{byte(a), byte(b)}))
		}
	}
}

// longTexts hands over texts whose bytes look like chance, the same ones at each run.
func longTexts(do func(s string)) {
	const edges = "%%%%09afAFgG/: \x00\x7F\x80\xA0\xBF\xC3\xE2\x82\xAC\xED\xF0\xFF"
	state := uint64(1)
	for n := range 20000 {
		text := make([]byte, n%13)
		for i := range text {
			state = state*6364136223846793005 + 1442695040888963407
			text[i] = edges[(state>>33)%uint64(len(edges))]
		}
		do(string(text))
	}
}

// P2.1
func TestSetNumbers(t *testing.T) {
	for number, s := range []percent.Set{percent.Control, percent.Fragment, percent.Query, percent.SpecialQuery, percent.Path, percent.Userinfo} {
		if int(s) != number {
			t.Errorf("a set is %d, want %d", s, number)
		}
	}
}

// P2.1
func TestIn(t *testing.T) {
	for s, signs := range signsOf {
		check := func(r rune, want bool) {
			if got := percent.In(s, r); got != want {
				t.Errorf("In(%d, %x) = %v, want %v", s, r, got, want)
			}
		}
		for r := rune(0x20); r <= 0x7E; r++ {
			check(r, strings.ContainsRune(signs, r))
		}
		for r := rune(-0x100); r <= 0x1F; r++ {
			check(r, true)
		}
		for r := rune(0x7F); r <= 0x1000; r++ {
			check(r, true)
		}
		for _, r := range []rune{-0x80000000, 0xD800, 0xDFFF, 0xFFFD, 0x10FFFF, 0x110000, 0x7FFFFFFF} {
			check(r, true)
		}
	}
}

// P2.1: a number that is no set's has nothing.
func TestInOfOtherSets(t *testing.T) {
	for n := 6; n <= 255; n++ {
		for _, r := range []rune{-0x80000000, -1, 0, 0x1F, ' ', '%', 'a', '|', 0x7F, 0xD800, 0xFFFD, 0x110000, 0x7FFFFFFF} {
			if percent.In(percent.Set(n), r) {
				t.Errorf("In(%d, %x) is true", n, r)
			}
		}
	}
}

// P2.1
func TestByte(t *testing.T) {
	const digits = "0123456789ABCDEF"
	for high := range 16 {
		for low := range 16 {
			want := "%" + digits[high:high+1] + digits[low:low+1]
			if got := percent.Byte(byte(high*16 + low)); got != want {
				t.Errorf("Byte(%d) = %q, want %q", high*16+low, got, want)
			}
		}
	}
}

// P2.1
func TestEncode(t *testing.T) {
	for _, c := range []struct {
		set        percent.Set
		text, want string
	}{
		{percent.Path, "", ""},
		{percent.Path, "a b", "a%20b"},
		{percent.Path, "a/b?c#d", "a/b%3Fc%23d"},
		{percent.Path, "%", "%"},
		{percent.Path, "%41%zz", "%41%zz"},
		{percent.Control, " \"~\x7F\x00\x1F", " \"~%7F%00%1F"},
		{percent.Fragment, "#a`b", "#a%60b"},
		{percent.Query, "a'b`c#", "a'b`c%23"},
		{percent.SpecialQuery, "a'b", "a%27b"},
		{percent.Userinfo, "u:p@h|\\", "u%3Ap%40h%7C%5C"},
		{percent.Control, "\u00E9\u20AC\U0001F600", "%C3%A9%E2%82%AC%F0%9F%98%80"},
		{percent.Control, "a\xFFb", "a%EF%BF%BDb"},
		{percent.Control, "\xE2\x82", "%EF%BF%BD%EF%BF%BD"},
		{percent.Control, "\xED\xA0\x80", "%EF%BF%BD%EF%BF%BD%EF%BF%BD"},
		{percent.Set(6), "a b\u00E9\x00", "a b\u00E9\x00"},
		{percent.Set(255), "a\xFFb", "a\uFFFDb"},
	} {
		if got := percent.Encode(c.set, c.text); got != c.want {
			t.Errorf("Encode(%d, %q) = %q, want %q", c.set, c.text, got, c.want)
		}
	}
}

// P2.1: each byte below 80 (base 16), by each set.
func TestEncodeOfEachSign(t *testing.T) {
	for s, signs := range signsOf {
		for c := range 0x80 {
			text := string([]byte{byte(c)})
			want := text
			if c < 0x20 || c == 0x7F || strings.Contains(signs, text) {
				want = percent.Byte(byte(c))
			}
			if got := percent.Encode(s, text); got != want {
				t.Errorf("Encode(%d, %q) = %q, want %q", s, text, got, want)
			}
		}
	}
}

// P2.2
func TestDecode(t *testing.T) {
	for text, want := range map[string]string{
		"":              "",
		"abc":           "abc",
		"%41b":          "Ab",
		"a%20b":         "a b",
		"%2541":         "%41",
		"%25%34%31":     "%41",
		"%%34%31":       "%41",
		"%4%31":         "%41",
		"%":             "%",
		"a%":            "a%",
		"%4":            "%4",
		"%41%4":         "A%4",
		"%%":            "%%",
		"%%41":          "%A",
		"%%%":           "%%%",
		"%zz":           "%zz",
		"%4z%z4":        "%4z%z4",
		"%g0%0g":        "%g0%0g",
		"%fF%Ff%FF%ff":  "\xFF\xFF\xFF\xFF",
		"%00":           "\x00",
		"%aF":           "\xAF",
		"%C3%A9":        "\u00E9",
		"a\xFF%41\xE2":  "a\xFFA\xE2",
		"%\xFF\xFF":     "%\xFF\xFF",
		"%\u0664\u0661": "%\u0664\u0661", // digits, but of another script
		"%\uFF14\uFF11": "%\uFF14\uFF11",
		"% 41":          "% 41",
		"%+4":           "%+4",
		"+":             "+",
	} {
		if got := percent.Decode(text); got != want {
			t.Errorf("Decode(%q) = %q, want %q", text, got, want)
		}
	}
}

// P2.2
func TestRight(t *testing.T) {
	for text, want := range map[string]bool{
		"": true, "abc": true, "%41": true, "%41%42": true, "a%fFb": true, "%Ff": true, "%2541": true, "\xFF": true,
		"%": false, "a%": false, "%4": false, "%41%": false, "%41%4": false, "%zz": false, "%4z": false, "%z4": false,
		"%%": false, "%%41": false, "%4%41": false, "%41%zz%42": false, "%\xFF\xFF": false, "%\u0664\u0661": false, "%g0": false, "% 4": false,
	} {
		if got := percent.Right(text); got != want {
			t.Errorf("Right(%q) = %v, want %v", text, got, want)
		}
	}
}

// P2.2: % with any two bytes behind it.
func TestEachPairBehindPercent(t *testing.T) {
	const digits = "0123456789abcdefABCDEF"
	shortTexts(func(s string) {
		text := "%" + s
		right := len(s) == 2 && strings.IndexByte(digits, s[0]) >= 0 && strings.IndexByte(digits, s[1]) >= 0
		if got := percent.Right(text); got != right {
			t.Errorf("Right(%q) = %v, want %v", text, got, right)
		}
		got := percent.Decode(text)
		if right && (len(got) != 1 || percent.Byte(got[0]) != "%"+strings.ToUpper(s)) {
			t.Errorf("Decode(%q) = %q", text, got)
		}
		if !right && got != text {
			t.Errorf("Decode(%q) = %q, want it as it was", text, got)
		}
	})
}

// P2.3
func TestDecodeOfEncode(t *testing.T) {
	check := func(text string) {
		text = strings.ReplaceAll(text, "%", "")
		want := scalar.Text(scalar.Scalars(text)...)
		for s := range percent.Set(8) {
			encoded := percent.Encode(s, text)
			if got := percent.Decode(encoded); got != want {
				t.Errorf("Decode(Encode(%d, %q)) = %q, want %q", s, text, got, want)
			}
			if !percent.Right(encoded) {
				t.Errorf("Encode(%d, %q) = %q isn't right", s, text, encoded)
			}
		}
	}
	shortTexts(check)
	longTexts(check)
}

// P1: each call ends, and none panics.
func TestNoneOfTheCallsPanics(t *testing.T) {
	longTexts(func(s string) {
		percent.Right(s)
		if got := percent.Decode(s); len(got) > len(s) {
			t.Errorf("Decode(%q) = %q is longer", s, got)
		}
		for set := range percent.Set(8) {
			if got := percent.Encode(set, s); len(got) < len(s) {
				t.Errorf("Encode(%d, %q) = %q is shorter", set, s, got)
			}
		}
	})
}
