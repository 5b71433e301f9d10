package scalar_test

import (
	"slices"
	"strings"
	"testing"
	"unicode/utf8"

	"mantrap/scalar"
)

// shortTexts hands over the empty text, all of one byte, and all of two.
func shortTexts(do func(s string)) {
	do("")
	for a := range 256 {
		do(string([]byte{byte(a)}))
		for b := range 256 {
			do(string([]byte{byte(a), byte(b)}))
		}
	}
}

// longTexts hands over texts whose bytes look like chance, the same ones at
// each run; many of them are pieces of UTF-8, right or not.
func longTexts(do func(s string)) {
	edges := []byte{0x00, 0x09, 0x0A, 0x0D, 0x20, 0x21, 'A', 'z', 0x7F, 0x80, 0x8F, 0x90, 0x9F, 0xA0, 0xBF, 0xC0, 0xC2, 0xDF, 0xE0, 0xE2, 0xED, 0xEF, 0xF0, 0xF4, 0xF5, 0xFF}
	state := uint64(1)
	for n := range 20000 {
		text := make([]byte, n%13)
		for i := range text {
			state = state*6364136223846793005 + 1442695040888963407
			text[i] = edges[(state>>33)%uint64(len(edges))]
		}
		do(string(text))
	}
}

func isPoint(r rune) bool {
	return 0 <= r && r < 0xD800 || 0xDFFF < r && r <= 0x10FFFF
}

// utf8Of writes a code point's UTF-8 by the rule of its lengths.
func utf8Of(r rune) string {
	switch {
	case !isPoint(r):
		return "\xEF\xBF\xBD"
	case r < 0x80:
		return string([]byte{byte(r)})
	case r < 0x800:
		return string([]byte{byte(0xC0 + r/64), byte(0x80 + r%64)})
	case r < 0x10000:
		return string([]byte{byte(0xE0 + r/4096), byte(0x80 + r/64%64), byte(0x80 + r%64)})
	}
	return string([]byte{byte(0xF0 + r/262144), byte(0x80 + r/4096%64), byte(0x80 + r/64%64), byte(0x80 + r%64)})
}

// P1.1
func TestScalars(t *testing.T) {
	const bad = 0xFFFD
	for s, want := range map[string][]rune{
		"":                         {},
		"abc":                      {'a', 'b', 'c'},
		"a\xFFb":                   {'a', bad, 'b'},
		"\x00\x7F":                 {0, 0x7F},
		"\u00E9\u20AC\U0001F600":   {0xE9, 0x20AC, 0x1F600},
		"\uFEFFa":                  {0xFEFF, 'a'},
		"\uFFFD":                   {bad},
		"\u0080\u07FF\u0800\uFFFF": {0x80, 0x7FF, 0x800, 0xFFFF},
		"\U00010000\U0010FFFF":     {0x10000, 0x10FFFF},
		"\uD7FF\uE000":             {0xD7FF, 0xE000},
		"\x80":                     {bad},
		"\xC0\x80":                 {bad, bad},           // 0, not of the shortest form
		"\xC1\xBF":                 {bad, bad},           // 7F, not of the shortest form
		"\xE0\x9F\xBF":             {bad, bad, bad},      // 7FF, not of the shortest form
		"\xF0\x8F\xBF\xBF":         {bad, bad, bad, bad}, // FFFF, not of the shortest form
		"\xED\xA0\x80":             {bad, bad, bad},      // D800
		"\xED\xBF\xBF":             {bad, bad, bad},      // DFFF
		"\xF4\x90\x80\x80":         {bad, bad, bad, bad}, // 110000
		"\xF8\x88\x80\x80\x80":     {bad, bad, bad, bad, bad},
		"\xE2\x82":                 {bad, bad},
		"\xE2\x82a":                {bad, bad, 'a'},
		"\xE2\xE2\x82\xAC":         {bad, 0x20AC},
		"\xF0\x9F\x98":             {bad, bad, bad},
		"\xE2\x82\xAC\xAC":         {0x20AC, bad},
	} {
		if got := scalar.Scalars(s); !slices.Equal(got, want) {
			t.Errorf("Scalars(%q) = %x, want %x", s, got, want)
		}
	}
}

// P1.1
func TestText(t *testing.T) {
	for _, c := range []struct {
		points []rune
		want   string
	}{
		{nil, ""},
		{[]rune{}, ""},
		{[]rune{0}, "\x00"},
		{[]rune{'a', 0xE9, 0x20AC, 0x1F600}, "a\xC3\xA9\xE2\x82\xAC\xF0\x9F\x98\x80"},
		{[]rune{-1}, "\xEF\xBF\xBD"},
		{[]rune{-0x80000000, 0x7FFFFFFF}, "\xEF\xBF\xBD\xEF\xBF\xBD"},
		{[]rune{0xD7FF, 0xD800, 0xDFFF, 0xE000}, "\xED\x9F\xBF\xEF\xBF\xBD\xEF\xBF\xBD\xEE\x80\x80"},
		{[]rune{0xD83D, 0xDE00}, "\xEF\xBF\xBD\xEF\xBF\xBD"}, // two surrogates are no pair
		{[]rune{0x10FFFF, 0x110000}, "\xF4\x8F\xBF\xBF\xEF\xBF\xBD"},
	} {
		if got := scalar.Text(c.points...); got != c.want {
			t.Errorf("Text(%x) = %q, want %q", c.points, got, c.want)
		}
	}
	if got := scalar.Text(); got != "" {
		t.Errorf("Text() = %q, want none", got)
	}
}

// P1.1
func TestTextOfEachNumber(t *testing.T) {
	for r := rune(-0x100); r <= 0x110100; r++ {
		if got, want := scalar.Text(r), utf8Of(r); got != want {
			t.Fatalf("Text(%x) = %q, want %q", r, got, want)
		}
	}
}

// P1.1
func TestPlain(t *testing.T) {
	for s, want := range map[string]bool{
		"": true, "a\x00\x7F": true, "\x80": false, "abc\xFF": false, "\xC3\xA9bc": false, "a\u20ACb": false,
	} {
		if got := scalar.Plain(s); got != want {
			t.Errorf("Plain(%q) = %v, want %v", s, got, want)
		}
	}
}

// P1.2
func TestLower(t *testing.T) {
	for s, want := range map[string]string{
		"":                   "",
		"aBC-Zz09":           "abc-zz09",
		"@AZ[`az{":           "@az[`az{",
		"\u00C9\u212A\u0130": "\u00C9\u212A\u0130", // E with acute, the Kelvin sign, I with a dot
		"A\xFF\xC3B":         "a\xFF\xC3b",
		"\x00\xC1\xDA":       "\x00\xC1\xDA",
	} {
		if got := scalar.Lower(s); got != want {
			t.Errorf("Lower(%q) = %q, want %q", s, got, want)
		}
	}
}

// P1.2
func TestLowerOfEachByte(t *testing.T) {
	const great, small = "ABCDEFGHIJKLMNOPQRSTUVWXYZ", "abcdefghijklmnopqrstuvwxyz"
	for c := range 256 {
		s := string([]byte{byte(c)})
		want := s
		if i := strings.IndexByte(great, byte(c)); i >= 0 {
			want = small[i : i+1]
		}
		if got := scalar.Lower(s); got != want {
			t.Errorf("Lower(%q) = %q, want %q", s, got, want)
		}
	}
}

// P1.2
func TestDigitAlphaValue(t *testing.T) {
	const letters = "abcdefghijklmnopqrstuvwxyzABCDEFGHIJKLMNOPQRSTUVWXYZ"
	check := func(r rune) {
		plain := 0 < r && r < 0x80
		if got, want := scalar.Digit(r), plain && strings.ContainsRune("0123456789", r); got != want {
			t.Errorf("Digit(%x) = %v, want %v", r, got, want)
		}
		if got, want := scalar.Alpha(r), plain && strings.ContainsRune(letters, r); got != want {
			t.Errorf("Alpha(%x) = %v, want %v", r, got, want)
		}
		want := -1
		if plain {
			want = strings.IndexRune("0123456789abcdef", r)
			if i := strings.IndexRune("ABCDEF", r); i >= 0 {
				want = i + 10
			}
		}
		if got := scalar.Value(r); got != want {
			t.Errorf("Value(%x) = %d, want %d", r, got, want)
		}
	}
	for r := rune(-0x1000); r <= 0x20000; r++ { // with digits and letters of other scripts
		check(r)
	}
	for _, r := range []rune{-0x80000000, 0x10FFFF, 0x110000, 0x7FFFFFFF} {
		check(r)
	}
}

// P1.3
func TestTrim(t *testing.T) {
	for s, want := range map[string]string{
		"":                       "",
		" ":                      "",
		"\x00\x1F \t\r\n":        "",
		" a ":                    "a",
		"\x00\x1F\x20a b\tc\x20": "a b\tc",
		"!a!":                    "!a!", // 21, base 16
		"\x7Fa\x7F":              "\x7Fa\x7F",
		"\u00A0a\u3000":          "\u00A0a\u3000", // blanks, but not of one byte
		" \u0085 ":               "\u0085",
		"a ":                     "a",
		" a":                     "a",
		" \xFF\x80 ":             "\xFF\x80",
	} {
		if got := scalar.Trim(s); got != want {
			t.Errorf("Trim(%q) = %q, want %q", s, got, want)
		}
	}
	for c := range 256 {
		side := string([]byte{byte(c)})
		want := "x"
		if c > 0x20 {
			want = side + "x" + side
		}
		if got := scalar.Trim(side + "x" + side); got != want {
			t.Errorf("Trim of x between two bytes %x = %q, want %q", c, got, want)
		}
	}
}

// P1.3
func TestDrop(t *testing.T) {
	for s, want := range map[string]string{
		"":                     "",
		"\t\n\r":               "",
		"\ta\nb\rc\r\n":        "abc",
		" a\x0Bb\x0C\x00\x08 ": " a\x0Bb\x0C\x00\x08 ",
		"\u2028\u0085\xFF\n":   "\u2028\u0085\xFF",
		"\xE2\n\x82":           "\xE2\x82",
	} {
		if got := scalar.Drop(s); got != want {
			t.Errorf("Drop(%q) = %q, want %q", s, got, want)
		}
	}
	for c := range 256 {
		s := string([]byte{'a', byte(c), 'b'})
		want := s
		if c == 9 || c == 10 || c == 13 {
			want = "ab"
		}
		if got := scalar.Drop(s); got != want {
			t.Errorf("Drop(%q) = %q, want %q", s, got, want)
		}
	}
}

// P1.3
func TestSplit(t *testing.T) {
	for _, c := range []struct {
		s, at string
		want  []string
	}{
		{"", "", []string{""}},
		{"", "/", []string{""}},
		{"a/b", "", []string{"a/b"}},
		{"abc", "/", []string{"abc"}},
		{"/", "/", []string{"", ""}},
		{"//", "/", []string{"", "", ""}},
		{"/a/b/", "/", []string{"", "a", "b", ""}},
		{"a/b\\c", "/\\", []string{"a", "b", "c"}},
		{"a/\\c", "\\/", []string{"a", "", "c"}},
		{"a/b", "//", []string{"a", "b"}},
		{"a.b.c", ".", []string{"a", "b", "c"}},
		{"a\x00b", "\x00", []string{"a", "b"}},
		{"a\xFFb", "\xFF", []string{"a", "b"}},
		{"a\xFF\xFEb", "\xFE", []string{"a\xFF", "b"}},
		{"\u00E9", "\u00E8", []string{"", "\xA9"}},         // both begin with the byte C3
		{"a\u20ACb", "\u20AC", []string{"a", "", "", "b"}}, // each byte is one of at's
	} {
		if got := scalar.Split(c.s, c.at); !slices.Equal(got, c.want) {
			t.Errorf("Split(%q, %q) = %q, want %q", c.s, c.at, got, c.want)
		}
	}
}

// P1.4: of all texts, what isn't right UTF-8 comes back as FFFD's.
func TestTextOfScalars(t *testing.T) {
	check := func(s string) {
		points := scalar.Scalars(s)
		got := scalar.Text(points...)
		if utf8.ValidString(s) && got != s {
			t.Errorf("Text(Scalars(%q)) = %q", s, got)
		}
		if !utf8.ValidString(s) && !strings.Contains(got, "\uFFFD") {
			t.Errorf("Text(Scalars(%q)) = %q, want FFFD in it", s, got)
		}
		if !slices.Equal(scalar.Scalars(got), points) {
			t.Errorf("Scalars(Text(%x)) = %x", points, scalar.Scalars(got))
		}
	}
	shortTexts(check)
	longTexts(check)
}

// P1.4
func TestScalarsOfText(t *testing.T) {
	var all []rune
	for r := rune(0); r <= 0x10FFFF; r++ {
		if isPoint(r) {
			all = append(all, r)
		}
	}
	if !slices.Equal(scalar.Scalars(scalar.Text(all...)), all) {
		t.Error("Scalars(Text(all code points)) aren't all code points")
	}
	slices.Reverse(all)
	if !slices.Equal(scalar.Scalars(scalar.Text(all...)), all) {
		t.Error("Scalars(Text(all code points, falling)) aren't these")
	}
}

// P1.3: what is split, laid together with a byte that it was split at, is the text.
func TestSplitLosesNothing(t *testing.T) {
	check := func(s string) {
		parts := scalar.Split(s, "\n")
		if strings.Join(parts, "\n") != s || len(parts) != 1+strings.Count(s, "\n") {
			t.Errorf("Split(%q) = %q", s, parts)
		}
	}
	shortTexts(check)
	longTexts(check)
}

// P1: each call ends, and none panics.
func TestNoneOfTheCallsPanics(t *testing.T) {
	check := func(s string) {
		scalar.Plain(s)
		scalar.Lower(s)
		scalar.Trim(s)
		scalar.Drop(s)
		scalar.Split(s, s)
	}
	shortTexts(check)
	longTexts(check)
}

// The rule of memory: an argument stays as it was, spare room included.
func TestTextLeavesItsArgument(t *testing.T) {
	room := []rune{'a', -1, 0xD800, 'x', 'y'}
	before := slices.Clone(room)
	scalar.Text(room[:3]...)
	if !slices.Equal(room, before) {
		t.Errorf("Text has changed what it was given: %x", room)
	}
}

// The rule of memory: no two answers share any, spare room included.
func TestAnswersAreNewMemory(t *testing.T) {
	first, second := scalar.Scalars("abc"), scalar.Scalars("abc")
	first[0] = 'x'
	_ = append(first, 'y')
	if !slices.Equal(second, []rune{'a', 'b', 'c'}) {
		t.Errorf("two answers of Scalars share memory: %x", second)
	}
	one, two := scalar.Split("a/b", "/"), scalar.Split("a/b", "/")
	one[0] = "x"
	_ = append(one, "y")
	if !slices.Equal(two, []string{"a", "b"}) {
		t.Errorf("two answers of Split share memory: %q", two)
	}
}
