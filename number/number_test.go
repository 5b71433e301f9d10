package number_test

import (
	"math"
	"math/big"
	"strconv"
	"strings"
	"testing"

	"mantrap/number"
)

// The greatest number that Parse tells.
const top = uint64(1) << 40

// shortTexts hands over all texts of up to five bytes of those that matter here.
func shortTexts(do func(s string)) {
	const signs = "01789afFgxX.-\xFF"
	do("")
	level := []string{""}
	for range 5 {
		var longer []string
		for _, s := range level {
			for i := range len(signs) {
				longer = append(longer, s+signs[i:i+1])
			}
		}
		for _, s := range longer {
			do(s)
		}
		level = longer
	}
}

// longTexts hands over texts whose bytes look like chance, the same ones at
// each run; most of them are numbers, many above the bounds.
func longTexts(do func(s string)) {
	alphabets := []string{"0123456789", "01234567", "0123456789abcdefABCDEF", "0123456789abcdefxX.+-_ \x00\x80\xFF"}
	state := uint64(1)
	next := func(below int) int {
		state = state*6364136223846793005 + 1442695040888963407
		return int((state >> 33) % uint64(below))
	}
	for range 20000 {
		text := []string{"", "0", "0x", "0X", "00", "0x0"}[next(6)]
		alphabet := alphabets[next(len(alphabets))]
		for range next(30) {
			i := next(len(alphabet))
			text += alphabet[i : i+1]
		}
		do(text)
	}
}

// parse tells what Parse has to, by numbers of any size.
func parse(s string) (uint64, bool) {
	digits, base, rest := "0123456789", int64(10), s
	switch {
	case s == "":
		return 0, false
	case strings.HasPrefix(strings.ToLower(s), "0x"):
		digits, base, rest = "0123456789abcdef", 16, strings.ToLower(s[2:])
	case len(s) >= 2 && s[0] == '0':
		digits, base, rest = "01234567", 8, s[1:]
	}
	sum := new(big.Int)
	for i := range len(rest) {
		value := strings.IndexByte(digits, rest[i])
		if value < 0 {
			return 0, false
		}
		sum.Mul(sum, big.NewInt(base))
		sum.Add(sum, big.NewInt(int64(value)))
	}
	if sum.Cmp(new(big.Int).SetUint64(top)) > 0 {
		return top, true
	}
	return sum.Uint64(), true
}

// P3.1
func TestParse(t *testing.T) {
	for s, want := range map[string]uint64{
		"0": 0, "1": 1, "9": 9, "10": 10, "255": 255, "256": 256, "2130706433": 2130706433,
		"00": 0, "000": 0, "01": 1, "07": 7, "010": 8, "017": 15, "0017": 15, "0377": 255, "017700000001": 2130706433,
		"0x": 0, "0X": 0, "0x0": 0, "0x00": 0, "0x7f": 127, "0X7F": 127, "0x7F": 127, "0X7f": 127, "0x0000007f": 127,
		"0xabcdef": 0xABCDEF, "0xABCDEF": 0xABCDEF, "0xaBcDeF": 0xABCDEF, "0x08": 8, "0x10": 16, "0x7f000001": 2130706433,
		"0xb": 11, "0x0b1": 0xB1, "1000": 1000,
	} {
		if got, ok := number.Parse(s); got != want || !ok {
			t.Errorf("Parse(%q) = %d, %v, want %d", s, got, ok, want)
		}
	}
}

// P3.1
func TestParseOfNoNumber(t *testing.T) {
	for _, s := range []string{
		"", " ", "a", "f", "x", "x1", "08", "09", "008", "018", "0a", "0f", "1a", "1x", "10x1", "00x1", "1x1",
		"0xg", "0xG", "0x1g", "0x ", "0x0x", "0xx", "0x-1", "0x+1", "0x_1", "0x1.", "0b1", "0o7", "0O7", "0B1",
		"+1", "-1", "-0", "+0", "1_0", "1e3", "1.", ".1", "1.0", " 1", "1 ", "1\n", "\x001", "1\x00", "0 ", " 0x1", "/", ":", "0/", "0:", "0x/", "0x:", "0x@", "0x`",
		"\xFF", "1\xFF", "0\xFF", "0x\xFF", "\u0661", "\uFF11", "0\uFF11", "0x\uFF21", "\u00B2",
	} {
		if got, ok := number.Parse(s); got != 0 || ok {
			t.Errorf("Parse(%q) = %d, %v, want none", s, got, ok)
		}
	}
}

// P3.1: below, at and above each bound, to each base, and where a sum of 64 bits would wrap round.
func TestParseAtBounds(t *testing.T) {
	for _, bits := range []uint{8, 16, 24, 32, 39, 40, 41, 43, 44, 62, 63, 64, 65, 96, 128, 1000} {
		bound := new(big.Int).Lsh(big.NewInt(1), bits)
		for d := int64(-2); d <= 2; d++ {
			n := new(big.Int).Add(bound, big.NewInt(d))
			want := top
			if n.IsUint64() && n.Uint64() < top {
				want = n.Uint64()
			}
			for _, s := range []string{n.String(), "0" + n.Text(8), "0x" + n.Text(16), "0X" + strings.ToUpper(n.Text(16)), "000" + n.Text(8), "0x000" + n.Text(16)} {
				if got, ok := number.Parse(s); got != want || !ok {
					t.Errorf("Parse(%q) = %d, %v, want %d", s, got, ok, want)
				}
				if got, ok := number.Parse(s + "g"); got != 0 || ok {
					t.Errorf("Parse(%q) = %d, %v, want none", s+"g", got, ok)
				}
			}
		}
	}
}

// P3.1: noughts ahead and behind, as many as one likes.
func TestParseOfLongTexts(t *testing.T) {
	noughts := strings.Repeat("0", 10000)
	for s, want := range map[string]uint64{
		noughts: 0, noughts + "17": 15, "0x" + noughts: 0, "0x" + noughts + "1F": 31,
		"1" + noughts: top, "01" + noughts: top, "0x1" + noughts: top, "9" + strings.Repeat("9", 10000): top,
	} {
		if got, ok := number.Parse(s); got != want || !ok {
			t.Errorf("Parse of %d bytes, %s.. = %d, %v, want %d", len(s), s[:5], got, ok, want)
		}
	}
	for _, s := range []string{noughts + "8", "1" + noughts + "a", "01" + noughts + "8", "0x1" + noughts + "g"} {
		if got, ok := number.Parse(s); got != 0 || ok {
			t.Errorf("Parse of %d bytes, ..%s = %d, %v, want none", len(s), s[len(s)-5:], got, ok)
		}
	}
}

// P3.1
func TestParseOfEachByte(t *testing.T) {
	for c := range 256 {
		one := string([]byte{byte(c)})
		for _, s := range []string{one, "1" + one, "0" + one, "0" + one + "1", "0x" + one, "0X1" + one, one + "0"} {
			got, ok := number.Parse(s)
			want, is := parse(s)
			if got != want || ok != is {
				t.Errorf("Parse(%q) = %d, %v, want %d, %v", s, got, ok, want, is)
			}
		}
	}
}

// P3.1
func TestParseOfManyTexts(t *testing.T) {
	check := func(s string) {
		got, ok := number.Parse(s)
		want, is := parse(s)
		if got != want || ok != is {
			t.Errorf("Parse(%q) = %d, %v, want %d, %v", s, got, ok, want, is)
		}
	}
	shortTexts(check)
	longTexts(check)
}

// P3.2
func TestDecimal(t *testing.T) {
	for _, c := range []struct {
		s    string
		most int
		want int
		ok   bool
	}{
		{"0", 0, 0, true},
		{"0", 9, 0, true},
		{"0", -1, 0, false},
		{"1", 0, 0, false},
		{"7", 9, 7, true},
		{"9", 9, 9, true},
		{"9", 8, 0, false},
		{"10", 10, 10, true},
		{"10", 9, 0, false},
		{"19", 20, 19, true},
		{"20", 20, 20, true},
		{"21", 20, 0, false},
		{"29", 20, 0, false},
		{"30", 29, 0, false},
		{"254", 255, 254, true},
		{"255", 255, 255, true},
		{"256", 255, 0, false},
		{"2550", 255, 0, false},
		{"1000", 255, 0, false},
		{"65535", 65535, 65535, true},
		{"65536", 65535, 0, false},
		{"1", -1, 0, false},
		{"1", -10, 0, false},
		{"0", math.MinInt, 0, false},
		{"9", math.MinInt, 0, false},
		{"9223372036854775806", math.MaxInt, math.MaxInt - 1, true},
		{"9223372036854775807", math.MaxInt, math.MaxInt, true},
		{"9223372036854775807", math.MaxInt - 1, 0, false},
		{"9223372036854775808", math.MaxInt, 0, false},
		{"9223372036854775810", math.MaxInt, 0, false},
		{"9300000000000000000", math.MaxInt, 0, false},
		{"10000000000000000000", math.MaxInt, 0, false},
		{"18446744073709551616", math.MaxInt, 0, false}, // 2^64
		{"18446744073709551621", 9, 0, false},
		{"92233720368547758070", math.MaxInt, 0, false},
	} {
		if got, ok := number.Decimal(c.s, c.most); got != c.want || ok != c.ok {
			t.Errorf("Decimal(%q, %d) = %d, %v, want %d, %v", c.s, c.most, got, ok, c.want, c.ok)
		}
	}
}

// P3.2
func TestDecimalOfNoNumber(t *testing.T) {
	for _, s := range []string{
		"", " ", "00", "07", "01", "010", "000", "00255", "0x", "0x7", "0X7", "a", "1a", "a1", "1f", "-1", "-0", "+0", "+1", "1_0", "1e1",
		" 1", "1 ", "1\n", "\t1", "1.", ".1", "1.0", "1,0", "\x00", "1\x00", "/", ":", "1/", "1:", "\xFF", "1\xFF", "\u0661", "\uFF11", "1\uFF11", "\u00B2",
	} {
		for _, most := range []int{math.MinInt, -1, 0, 9, 255, math.MaxInt} {
			if got, ok := number.Decimal(s, most); got != 0 || ok {
				t.Errorf("Decimal(%q, %d) = %d, %v, want none", s, most, got, ok)
			}
		}
	}
}

// P3.2: each number around each bound, and with a nought ahead.
func TestDecimalAtBounds(t *testing.T) {
	for most := -30; most <= 330; most++ {
		for n := range 350 {
			want, is := n, true
			if n > most {
				want, is = 0, false
			}
			if got, ok := number.Decimal(strconv.Itoa(n), most); got != want || ok != is {
				t.Errorf("Decimal(%d, %d) = %d, %v, want %d, %v", n, most, got, ok, want, is)
			}
			if got, ok := number.Decimal("0"+strconv.Itoa(n), most); got != 0 || ok {
				t.Errorf("Decimal(0%d, %d) = %d, %v, want none", n, most, got, ok)
			}
		}
	}
}

// P3.2: a text is a number's if that number is printed so.
func TestDecimalOfManyTexts(t *testing.T) {
	check := func(s string) {
		n, err := strconv.Atoi(s)
		is := err == nil && strconv.Itoa(n) == s && n >= 0
		if got, ok := number.Decimal(s, math.MaxInt); ok != is || is && got != n || !is && got != 0 {
			t.Errorf("Decimal(%q, most of all) = %d, %v, want %d, %v", s, got, ok, n, is)
		}
		is = is && n <= 77
		if got, ok := number.Decimal(s, 77); ok != is || is && got != n || !is && got != 0 {
			t.Errorf("Decimal(%q, 77) = %d, %v, want %d, %v", s, got, ok, n, is)
		}
	}
	shortTexts(check)
	longTexts(check)
}

// P3.3
func TestEnds(t *testing.T) {
	for _, s := range []string{
		"0", "1", "00", "08", "09", "0899", "123", "0x", "0X", "0x7f", "0XAf", "017", "a.0x", "a.0X", "a.1", "a.1.", "a.08", "a.09.", "a.0x.", "a.b.0xF.",
		"1.", "0x.", ".1", ".1.", "..1", "..0x.", "1.2.3.4", "1.2.3.4.", "1.2.3.4.5", "a b.1", "\xFF.1", "-.1",
		"99999999999999999999999999", "a.99999999999999999999999999", "0xfffffffffffffffffffffffff", "a.0777777777777777777777777777777",
	} {
		if !number.Ends(s) {
			t.Errorf("Ends(%q) is false", s)
		}
	}
	for _, s := range []string{
		"", ".", "..", "...", "a", "a.", "1.a", "1.a.", "1..", "1...", "a.1..", "0x..", "0xg", "a.0xg", "a.0xg.", "1a", "a1", "a.1a", "a.a1", "1.-1", "1.+1", "1. 1", "1.1 ", "1.1\n",
		"0a", "0b1", "08a", "08x", "f", "a.f", "1.x", "1.0x-", "1.1\xFF", "1.\xFF", "1.\u0661", "\uFF11", "1.2.3.d", "1\u3002", "a\u30021", "1.%31", "1,1", "1.2:3", "[::1]",
	} {
		if number.Ends(s) {
			t.Errorf("Ends(%q) is true", s)
		}
	}
}

// P3.3: by the text that stands behind the last point but one that ends it.
func TestEndsOfManyTexts(t *testing.T) {
	check := func(s string) {
		part := strings.TrimSuffix(s, ".")
		part = part[strings.LastIndexByte(part, '.')+1:]
		_, want := parse(part)
		if part != "" && strings.Trim(part, "0123456789") == "" {
			want = true
		}
		if got := number.Ends(s); got != want {
			t.Errorf("Ends(%q) = %v, want %v", s, got, want)
		}
	}
	shortTexts(check)
	longTexts(check)
	for c := range 256 {
		one := string([]byte{byte(c)})
		for _, s := range []string{one, one + "1", "1" + one, "a." + one, "a.1" + one, "a.0x" + one + "."} {
			check(s)
		}
	}
}

// P3.4
func TestParseTellsWhatDecimalTells(t *testing.T) {
	told := 0
	check := func(s string) {
		n, ok := number.Decimal(s, math.MaxInt)
		if !ok {
			return
		}
		told++
		if got, is := number.Parse(s); !is || got != min(uint64(n), top) {
			t.Errorf("Parse(%q) = %d, %v, but Decimal tells %d", s, got, is, n)
		}
	}
	shortTexts(check)
	longTexts(check)
	for d := -5; d <= 5; d++ {
		check(strconv.Itoa(1<<40 + d))
		check(strconv.Itoa(math.MaxInt - 5 + d))
	}
	for n := range 70000 {
		check(strconv.Itoa(n))
	}
	if told < 70000+22 {
		t.Errorf("Decimal told but %d numbers", told)
	}
}

// P1: each call ends, and none panics; beside a false stands 0.
func TestNoneOfTheCallsPanics(t *testing.T) {
	for a := range 256 {
		for b := range 256 {
			s := string([]byte{byte(a), byte(b)})
			number.Ends(s)
			if n, ok := number.Parse(s); !ok && n != 0 {
				t.Errorf("Parse(%q) = %d beside false", s, n)
			}
			for _, most := range []int{math.MinInt, math.MinInt + 9, -1, 0, 5, math.MaxInt} {
				if n, ok := number.Decimal(s, most); !ok && n != 0 || n > max(most, 0) {
					t.Errorf("Decimal(%q, %d) = %d, %v", s, most, n, ok)
				}
			}
		}
	}
}
