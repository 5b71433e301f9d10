package four_test

import (
	"fmt"
	"math/big"
	"strconv"
	"strings"
	"testing"

	"mantrap/four"
)

// chance tells a source of numbers that look like chance, the same ones at each run.
func chance() func(below int) int {
	state := uint64(1)
	return func(below int) int {
		state = state*6364136223846793005 + 1442695040888963407
		return int((state >> 33) % uint64(below))
	}
}

// addresses hands over those at the edges of each byte, and many others.
func addresses(do func(a, b, c, d byte)) {
	edges := []byte{0, 1, 9, 10, 99, 100, 127, 128, 254, 255}
	for _, a := range edges {
		for _, b := range edges {
			for _, c := range edges {
				for _, d := range edges {
					do(a, b, c, d)
				}
			}
		}
	}
	next := chance()
	for range 20000 {
		do(byte(next(256)), byte(next(256)), byte(next(256)), byte(next(256)))
	}
}

// texts hands over texts of no, one or more parts, most of which are numbers
// near the bounds, to each base.
func texts(do func(s string)) {
	numbers := []string{
		"0", "1", "7", "8", "10", "127", "254", "255", "256", "257", "65535", "65536", "16777215", "16777216", "4294967295", "4294967296",
		"1099511627776", "18446744073709551616", "00", "01", "08", "010", "0377", "0400", "000377", "037777777777", "040000000000",
		"0x", "0X0", "0xff", "0XFF", "0xFf", "0x100", "0xffff", "0x10000", "0xffffff", "0x1000000", "0xffffffff", "0x100000000", "0x00000000ff",
		"", "a", "f", "-1", "+1", " 1", "1 ", "0xg", "\xFF", "\u0661",
	}
	do("")
	next := chance()
	for range 200000 {
		parts := make([]string, 1+next(6))
		for i := range parts {
			parts[i] = numbers[next(8)] // a byte, as it is printed
			if next(3) == 0 {
				parts[i] = numbers[next(len(numbers))]
			}
		}
		do(strings.Join(parts, ".") + []string{"", "", "."}[next(3)])
	}
}

// count tells the number that one part is, by numbers of any size.
func count(s string) (*big.Int, bool) {
	digits, base := s, 10
	switch {
	case s == "" || strings.Trim(strings.ToLower(s), "0123456789abcdefx") != "":
		return nil, false
	case s == "0x" || s == "0X":
		return new(big.Int), true
	case len(s) > 1 && s[0] == '0' && (s[1] == 'x' || s[1] == 'X'):
		digits, base = s[2:], 16
	case len(s) > 1 && s[0] == '0':
		digits, base = s[1:], 8
	}
	return new(big.Int).SetString(digits, base)
}

// parse tells what Parse has to, in the words of the chapter.
func parse(s string) (four.Addr, bool) {
	parts := strings.Split(s, ".")
	if len(parts) > 1 && parts[len(parts)-1] == "" {
		parts = parts[:len(parts)-1]
	}
	if len(parts) > 4 {
		return 0, false
	}
	sum := new(big.Int)
	for i, part := range parts {
		n, ok := count(part)
		if !ok {
			return 0, false
		}
		bound, times := int64(256), int64(1)
		if i == len(parts)-1 {
			for range 5 - len(parts) - 1 {
				bound *= 256
			}
		} else {
			for range 3 - i {
				times *= 256
			}
		}
		if n.Cmp(big.NewInt(bound)) >= 0 {
			return 0, false
		}
		sum.Add(sum, n.Mul(n, big.NewInt(times)))
	}
	return four.Addr(sum.Uint64()), true
}

// P4.1
func TestOfBytesTextWide(t *testing.T) {
	addresses(func(a, b, c, d byte) {
		address := four.Of(a, b, c, d)
		want := ((uint64(a)*256+uint64(b))*256+uint64(c))*256 + uint64(d)
		if uint64(address) != want {
			t.Errorf("Of(%d, %d, %d, %d) = %d, want %d", a, b, c, d, address, want)
		}
		if got := address.Bytes(); got != [4]byte{a, b, c, d} {
			t.Errorf("Bytes of %d.%d.%d.%d = %v", a, b, c, d, got)
		}
		if got, want := address.Text(), fmt.Sprintf("%d.%d.%d.%d", a, b, c, d); got != want {
			t.Errorf("Text = %q, want %q", got, want)
		}
		if hi, lo := address.Wide(); hi != 0 || lo != 0xFFFF*(1<<32)+want {
			t.Errorf("Wide of %d.%d.%d.%d = %x, %x", a, b, c, d, hi, lo)
		}
	})
}

// P4.1: numbers that were written by hand.
func TestKnownAddresses(t *testing.T) {
	for _, c := range []struct {
		address four.Addr
		bytes   [4]byte
		text    string
		lo      uint64
	}{
		{0, [4]byte{}, "0.0.0.0", 0xFFFF00000000},
		{1, [4]byte{0, 0, 0, 1}, "0.0.0.1", 0xFFFF00000001},
		{0x7F000001, [4]byte{127, 0, 0, 1}, "127.0.0.1", 0xFFFF7F000001},
		{0x01020304, [4]byte{1, 2, 3, 4}, "1.2.3.4", 0xFFFF01020304},
		{0xC0A80A64, [4]byte{192, 168, 10, 100}, "192.168.10.100", 0xFFFFC0A80A64},
		{0xFFFFFFFF, [4]byte{255, 255, 255, 255}, "255.255.255.255", 0xFFFFFFFFFFFF},
	} {
		hi, lo := c.address.Wide()
		if c.address.Bytes() != c.bytes || c.address.Text() != c.text || hi != 0 || lo != c.lo {
			t.Errorf("%x: %v, %q, %x, %x", uint32(c.address), c.address.Bytes(), c.address.Text(), hi, lo)
		}
		if got := four.Of(c.bytes[0], c.bytes[1], c.bytes[2], c.bytes[3]); got != c.address {
			t.Errorf("Of(%v) = %x, want %x", c.bytes, uint32(got), uint32(c.address))
		}
	}
}

// P4.2
func TestParse(t *testing.T) {
	for s, want := range map[string]string{
		"0": "0.0.0.0", "1": "0.0.0.1", "255": "0.0.0.255", "256": "0.0.1.0", "65536": "0.1.0.0", "16777216": "1.0.0.0",
		"2130706433": "127.0.0.1", "017700000001": "127.0.0.1", "0x7f000001": "127.0.0.1", "0X7F000001": "127.0.0.1",
		"4294967294": "255.255.255.254", "4294967295": "255.255.255.255", "0xffffffff": "255.255.255.255", "037777777777": "255.255.255.255",
		"0x7f.1": "127.0.0.1", "127.1": "127.0.0.1", "1.0": "1.0.0.0", "1.256": "1.0.1.0", "1.65536": "1.1.0.0", "1.16777215": "1.255.255.255", "255.0xffffff": "255.255.255.255",
		"1.2.0": "1.2.0.0", "1.2.3": "1.2.0.3", "1.2.256": "1.2.1.0", "1.2.65535": "1.2.255.255", "255.255.0177777": "255.255.255.255",
		"1.2.3.4": "1.2.3.4", "0.0.0.0": "0.0.0.0", "255.255.255.255": "255.255.255.255", "1.2.3.255": "1.2.3.255",
		"01.02.03.04": "1.2.3.4", "010.010.010.010": "8.8.8.8", "0x1.0x2.0X3.0x4": "1.2.3.4", "0xA.0xb.0xC.0xd": "10.11.12.13", "0377.0xff.255.000377": "255.255.255.255",
		"0x": "0.0.0.0", "0X.0x.0x.0x": "0.0.0.0", "1.0x": "1.0.0.0", "00": "0.0.0.0",
		"1.": "0.0.0.1", "1.2.": "1.0.0.2", "1.2.3.": "1.2.0.3", "1.2.3.4.": "1.2.3.4", "0x.": "0.0.0.0", "127.1.": "127.0.0.1",
	} {
		if got, ok := four.Parse(s); !ok || got.Text() != want {
			t.Errorf("Parse(%q) = %s, %v, want %s", s, got.Text(), ok, want)
		}
	}
}

// P4.2
func TestParseOfNoAddress(t *testing.T) {
	for _, s := range []string{
		"", ".", "..", "...", "....", "1..", "1.2..", "1.2.3..", "1.2.3.4..", ".1", ".1.2.3", "1..2", "1..3.4", "1.2..4", "..1", ".1.",
		"1.2.3.4.5", "1.2.3.4.5.", "0.0.0.0.0", "1.1.1.1.1.1.1.1",
		"4294967296", "0x100000000", "040000000000", "1099511627776", "1099511627777", "18446744073709551616", "18446744073709551617", "99999999999999999999999999",
		"256.1", "256.0", "1.16777216", "0x100.1", "0400.1", "4294967296.1", "18446744073709551617.1", "1.18446744073709551616",
		"256.2.3", "1.256.3", "1.2.65536", "256.2.3.4", "1.256.3.4", "1.2.256.4", "1.2.3.256", "1.2.3.0x100", "1.2.3.0400", "1.2.3.65536", "1.2.3.4294967296",
		"08", "09", "1.2.3.08", "1.08", "08.1", "0xg", "1.0xg", "a", "a.1", "1.a", "1.2.3.a", "f", "ff.1", "0x.g", "1.2.3.4a", "1.2.3.4x",
		" 1.2.3.4", "1.2.3.4 ", "1.2.3.4\n", "1. 2.3.4", "+1.2.3.4", "-1.2.3.4", "1.2.3.-4", "1.2.3.+4", "1.2.3.4/8", "1.2.3.4:80", "1,2,3,4", "1.2.3.4\x00", "\xFF", "1.2.3.\xFF",
		"\uFF11.2.3.4", "1\u30022\u30023\u30024", "1.2.3.\u0664", "%31.2.3.4", "::1", "[1.2.3.4]", "1_0", "1e3",
	} {
		if got, ok := four.Parse(s); got != 0 || ok {
			t.Errorf("Parse(%q) = %s, %v, want none", s, got.Text(), ok)
		}
	}
}

// P4.2: of one to four parts the last one below, at and above its bound, and each other one, too.
func TestParseAtBounds(t *testing.T) {
	check := func(s string, want bool) {
		address, is := parse(s)
		if is != want {
			t.Fatalf("the test's own reading of %q is %v", s, is)
		}
		if got, ok := four.Parse(s); ok != want || got != address {
			t.Errorf("Parse(%q) = %x, %v, want %x, %v", s, uint32(got), ok, uint32(address), want)
		}
	}
	for count := 1; count <= 4; count++ {
		ahead := strings.Repeat("255.", count-1)
		bound := uint64(1) << (8 * (5 - count))
		for d := uint64(0); d <= 4; d++ {
			n := bound - 2 + d
			for _, form := range []string{"%s%d", "%s0%o", "%s0x%x", "%s0X%X", "%s%d.", "%s00%o", "%s0x00%x."} {
				check(fmt.Sprintf(form, ahead, n), n < bound)
			}
		}
		for at := range count - 1 {
			for n := 253; n <= 258; n++ {
				parts := strings.Split(ahead+"1", ".")
				parts[at] = strconv.Itoa(n)
				check(strings.Join(parts, "."), n <= 255)
			}
		}
	}
}

// P4.2
func TestParseOfManyTexts(t *testing.T) {
	read := 0
	texts(func(s string) {
		want, is := parse(s)
		if got, ok := four.Parse(s); got != want || ok != is {
			t.Errorf("Parse(%q) = %x, %v, want %x, %v", s, uint32(got), ok, uint32(want), is)
		}
		if is {
			read++
		}
	})
	if read < 5000 {
		t.Errorf("but %d of the texts are addresses", read)
	}
}

// P4.3
func TestStrict(t *testing.T) {
	for s, want := range map[string]four.Addr{
		"0.0.0.0": 0, "0.0.0.1": 1, "1.2.3.4": 0x01020304, "127.0.0.1": 0x7F000001, "10.20.30.40": 0x0A141E28, "255.255.255.255": 0xFFFFFFFF, "192.168.0.99": 0xC0A80063,
	} {
		if got, ok := four.Strict(s); got != want || !ok {
			t.Errorf("Strict(%q) = %x, %v, want %x", s, uint32(got), ok, uint32(want))
		}
	}
	for _, s := range []string{
		"", ".", "...", "....", "1", "127.1", "1.2.3", "1.2.3.", "1.2.3.4.", "1.2.3.4..", ".1.2.3", ".1.2.3.4", "1..3.4", "1.2.3.4.5", "1.2.3.4.5.6.7.8",
		"01.2.3.4", "1.02.3.4", "1.2.003.4", "1.2.3.04", "00.0.0.0", "0.0.0.00", "0x1.2.3.4", "1.2.3.0x4", "1.2.3.0x", "1.2.3.a", "256.2.3.4", "1.256.3.4", "1.2.256.4", "1.2.3.256",
		"1.2.3.999", "1.2.3.1000", "1.2.3.4294967296", "1.2.3.18446744073709551617", "2130706433", "0x7f.1",
		" 1.2.3.4", "1.2.3.4 ", "1.2.3.4\n", "1.2.3. 4", "+1.2.3.4", "1.2.3.-4", "1.2.3.-0", "1.2.3.4/8", "1.2.3.4:80", "1,2,3,4", "1.2.3.4\x00", "1.2.3.\xFF", "1.2.3.\u0664", "a.b.c.d", "[1.2.3.4]",
	} {
		if got, ok := four.Strict(s); got != 0 || ok {
			t.Errorf("Strict(%q) = %x, %v, want none", s, uint32(got), ok)
		}
	}
}

// P4.3, P4.4: what Strict reads is the Text of what it tells, and Parse reads it, too.
func TestStrictOfManyTexts(t *testing.T) {
	read := 0
	texts(func(s string) {
		got, ok := four.Strict(s)
		if !ok && got != 0 {
			t.Errorf("Strict(%q) = %x beside false", s, uint32(got))
		}
		address, is := parse(s)
		if want := is && address.Text() == s; ok != want {
			t.Errorf("Strict(%q) is %v, want %v", s, ok, want)
		}
		if !ok {
			return
		}
		read++
		if got.Text() != s {
			t.Errorf("Strict(%q) = %s", s, got.Text())
		}
		if same, too := four.Parse(s); !too || same != got {
			t.Errorf("Strict(%q) = %x, but Parse tells %x, %v", s, uint32(got), uint32(same), too)
		}
	})
	if read < 500 {
		t.Errorf("but %d of the texts are an address's Text", read)
	}
}

// P4.4
func TestTextIsRead(t *testing.T) {
	addresses(func(a, b, c, d byte) {
		address := four.Of(a, b, c, d)
		if got, ok := four.Parse(address.Text()); !ok || got != address {
			t.Errorf("Parse(%q) = %x, %v", address.Text(), uint32(got), ok)
		}
		if got, ok := four.Strict(address.Text()); !ok || got != address {
			t.Errorf("Strict(%q) = %x, %v", address.Text(), uint32(got), ok)
		}
	})
}

// P1: each call ends, and none panics; beside a false stands 0.
func TestNoneOfTheCallsPanics(t *testing.T) {
	const signs = "019.xfF-\x00\xFF"
	next := chance()
	check := func(s string) {
		if a, ok := four.Parse(s); !ok && a != 0 {
			t.Errorf("Parse(%q) = %x beside false", s, uint32(a))
		}
		if a, ok := four.Strict(s); !ok && a != 0 {
			t.Errorf("Strict(%q) = %x beside false", s, uint32(a))
		}
	}
	for range 200000 {
		text := make([]byte, next(12))
		for i := range text {
			text[i] = signs[next(len(signs))]
		}
		check(string(text))
	}
	for _, s := range []string{strings.Repeat(".", 10000), strings.Repeat("1.", 10000), strings.Repeat("0", 10000), strings.Repeat("9", 10000)} {
		check(s)
	}
}
