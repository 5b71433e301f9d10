package prefix_test

import (
	"fmt"
	"math"
	"strconv"
	"strings"
	"testing"

	"mantrap/addr"
	"mantrap/four"
	"mantrap/prefix"
	"mantrap/six"
)

const ones = math.MaxUint64

// lengths are those at which halves, sorts and the number itself end, and those beside them.
var lengths = []int{0, 1, 2, 31, 32, 33, 63, 64, 65, 95, 96, 97, 98, 104, 126, 127, 128}

// noLengths are beyond both ends.
var noLengths = []int{-1, -2, -64, -128, 129, 130, 192, 255, 256, math.MaxInt, math.MinInt, math.MinInt + 63, math.MinInt + 64}

// chance tells a source of numbers that look like chance, the same ones at each run.
func chance() func(below int) int {
	state := uint64(1)
	return func(below int) int {
		state = state*6364136223846793005 + 1442695040888963407
		return int((state >> 33) % uint64(below))
	}
}

// bits tells a wide number's 128 digits to the base 2.
func bits(hi, lo uint64) string {
	return fmt.Sprintf("%064b%064b", hi, lo)
}

// fromBits tells the wide number of 128 digits to the base 2.
func fromBits(digits string) (hi, lo uint64) {
	hi, _ = strconv.ParseUint(digits[:64], 2, 64)
	lo, _ = strconv.ParseUint(digits[64:], 2, 64)
	return hi, lo
}

// right tells what Right has to.
func right(p prefix.Prefix) bool {
	return p.Len >= 0 && p.Len <= 128 && !strings.Contains(bits(p.Hi, p.Lo)[p.Len:], "1")
}

// has tells what Has has to.
func has(p prefix.Prefix, a addr.Addr) bool {
	if a == nil || !right(p) {
		return false
	}
	return strings.HasPrefix(bits(a.Wide()), bits(p.Hi, p.Lo)[:p.Len])
}

// numbers tells wide numbers: noughts, ones, each bit by itself, those of four bytes, and others.
func numbers() []six.Addr {
	list := []six.Addr{
		{}, {Hi: ones, Lo: ones}, {Hi: ones}, {Lo: ones}, {Lo: 0xFFFF_0000_0000}, {Lo: 0xFFFF_0A01_0203}, {Lo: 0xFFFF_FFFF_FFFF},
		{Lo: 0xFFFE_FFFF_FFFF}, {Lo: 0x1_0000_0000_0000}, {Hi: 1, Lo: 0xFFFF_0A01_0203}, {Hi: 0x2001_0DB8_0000_0000, Lo: 1}, {Hi: 0xAAAA_AAAA_AAAA_AAAA, Lo: 0x5555_5555_5555_5555},
	}
	for i := range 64 {
		list = append(list, six.Addr{Hi: 1 << i}, six.Addr{Lo: 1 << i})
	}
	return list
}

// addresses tells addresses of either sort.
func addresses() []addr.Addr {
	list := []addr.Addr{four.Addr(0), four.Addr(1), four.Of(10, 0, 0, 0), four.Of(10, 1, 2, 3), four.Of(127, 0, 0, 1), four.Of(128, 0, 0, 0), four.Of(255, 255, 255, 255)}
	for _, n := range numbers() {
		list = append(list, n)
	}
	return list
}

// candidates tells what may be a prefix, and what may not.
func candidates() []prefix.Prefix {
	var list []prefix.Prefix
	for _, n := range []six.Addr{{}, {Hi: ones, Lo: ones}, {Hi: ones}, {Lo: 1}, {Hi: 1}, {Hi: 1 << 63}, {Lo: 1 << 63}, {Lo: 0xFFFF_0A00_0000}, {Lo: 0xFFFF_0A01_0203}, {Hi: 0x2001_0DB8_0000_0000}} {
		for _, length := range lengths {
			list = append(list, prefix.Prefix{Hi: n.Hi, Lo: n.Lo, Len: length})
			if p, ok := prefix.Of(n, length); ok {
				list = append(list, p)
			}
		}
		for _, length := range noLengths {
			list = append(list, prefix.Prefix{Hi: n.Hi, Lo: n.Lo, Len: length})
		}
	}
	return list
}

// read tells the prefix that a text is.
func read(t *testing.T, s string) prefix.Prefix {
	t.Helper()
	p, ok := prefix.Parse(s)
	if !ok {
		t.Fatalf("%q is no prefix", s)
	}
	return p
}

// readAddr tells the address that a text is.
func readAddr(t *testing.T, s string) addr.Addr {
	t.Helper()
	a, ok := addr.Parse(s)
	if !ok {
		t.Fatalf("%q is no address", s)
	}
	return a
}

// P7.1
func TestRight(t *testing.T) {
	for _, p := range []prefix.Prefix{
		{}, {Len: 1}, {Len: 63}, {Len: 64}, {Len: 65}, {Len: 127}, {Len: 128},
		{Hi: 1 << 63, Len: 1}, {Hi: ones - 1, Len: 63}, {Hi: 1, Len: 64}, {Hi: ones, Len: 64}, {Hi: ones, Lo: 1 << 63, Len: 65},
		{Lo: 0xFFFF_0000_0000, Len: 96}, {Lo: 1 << 33, Len: 95}, {Lo: 1 << 32, Len: 96}, {Lo: 1 << 31, Len: 97}, {Lo: 2, Len: 127}, {Lo: 1, Len: 128}, {Hi: ones, Lo: ones, Len: 128},
	} {
		if !p.Right() {
			t.Errorf("%+v isn't right", p)
		}
	}
	for _, p := range []prefix.Prefix{
		{Len: -1}, {Len: 129}, {Len: math.MaxInt}, {Len: math.MinInt}, {Hi: ones, Lo: ones, Len: 129}, {Hi: ones, Lo: ones, Len: -1},
		{Lo: 1}, {Hi: 1}, {Hi: 1 << 63}, {Hi: 1 << 62, Len: 1}, {Hi: 1, Len: 63}, {Lo: 1, Len: 64}, {Lo: 1 << 63, Len: 64}, {Lo: 1 << 63, Len: 63}, {Lo: 1 << 62, Len: 65},
		{Lo: 0xFFFF_0000_0000, Len: 95}, {Lo: 1 << 32, Len: 95}, {Lo: 1 << 31, Len: 96}, {Lo: 1 << 30, Len: 97}, {Lo: 1, Len: 127},
	} {
		if p.Right() {
			t.Errorf("%+v is right", p)
		}
	}
}

// P7.1: each number at each length, and beyond both ends.
func TestRightOfManyPrefixes(t *testing.T) {
	for _, n := range numbers() {
		for length := -70; length <= 200; length++ {
			p := prefix.Prefix{Hi: n.Hi, Lo: n.Lo, Len: length}
			if got, want := p.Right(), right(p); got != want {
				t.Errorf("Right of %+v is %v, want %v", p, got, want)
			}
		}
	}
}

// P7.1
func TestOf(t *testing.T) {
	for _, a := range addresses() {
		digits := bits(a.Wide())
		for n := range 129 {
			hi, lo := fromBits(digits[:n] + strings.Repeat("0", 128-n))
			want := prefix.Prefix{Hi: hi, Lo: lo, Len: n}
			got, ok := prefix.Of(a, n)
			if !ok || got != want {
				t.Errorf("Of(%s, %d) = %+v, %v, want %+v", a.Text(), n, got, ok, want)
			}
			if !got.Right() || !got.Has(a) {
				t.Errorf("Of(%s, %d) = %+v, which isn't right, or hasn't it", a.Text(), n, got)
			}
		}
	}
}

// P7.1
func TestOfNone(t *testing.T) {
	var none addr.Addr
	for _, n := range noLengths {
		for _, a := range []addr.Addr{none, four.Addr(0), four.Of(1, 2, 3, 4), six.Addr{}, six.Addr{Hi: ones, Lo: ones}} {
			if got, ok := prefix.Of(a, n); ok || got != (prefix.Prefix{}) {
				t.Errorf("Of(%v, %d) = %+v, %v, want none", a, n, got, ok)
			}
		}
	}
	for _, n := range lengths {
		if got, ok := prefix.Of(nil, n); ok || got != (prefix.Prefix{}) {
			t.Errorf("Of(nil, %d) = %+v, %v, want none", n, got, ok)
		}
	}
}

// P7.1
func TestHas(t *testing.T) {
	for s, l := range map[string]string{
		"10.0.0.0/8":    "10.0.0.0 10.1.2.3 ::ffff:10.1.2.3 10.255.255.255 ::ffff:aff:ffff",
		"0.0.0.0/0":     "0.0.0.0 1.2.3.4 255.255.255.255 ::ffff:0:0 ::ffff:ffff:ffff",
		"1.2.3.4/32":    "1.2.3.4 ::ffff:102:304",
		"128.0.0.0/1":   "128.0.0.0 255.255.255.255",
		"::/0":          "0.0.0.0 1.2.3.4 :: ::1 8000:: ffff:ffff:ffff:ffff:ffff:ffff:ffff:ffff",
		"::/96":         ":: ::1 ::1.2.3.4 ::ffff:ffff",
		"::/80":         ":: ::1 1.2.3.4 0.0.0.0 ::ffff:1.2.3.4",
		"8000::/1":      "8000:: ffff:ffff:ffff:ffff:ffff:ffff:ffff:ffff",
		"2001:db8::/32": "2001:db8:: 2001:db8::1 2001:db8:ffff:ffff:ffff:ffff:ffff:ffff",
		"1:2:3:4::/64":  "1:2:3:4:: 1:2:3:4:ffff:ffff:ffff:ffff",
		"1:2:3:4::/65":  "1:2:3:4:: 1:2:3:4:7fff:ffff:ffff:ffff",
		"1:2:3:4::/63":  "1:2:3:4:: 1:2:3:5:ffff:ffff:ffff:ffff",
		"::1/128":       "::1",
		"::fffe:0:0/95": "::fffe:0:0 0.0.0.0 255.255.255.255 ::ffff:1.2.3.4",
		"1::fffe/127":   "1::fffe 1::ffff",
	} {
		for _, text := range strings.Fields(l) {
			if !read(t, s).Has(readAddr(t, text)) {
				t.Errorf("%s hasn't %s", s, text)
			}
		}
	}
	for s, l := range map[string]string{
		"10.0.0.0/8":    "9.255.255.255 11.0.0.0 :: ::10.1.2.3 ::a01:203 1::ffff:10.1.2.3 ::fffe:10.1.2.3",
		"0.0.0.0/0":     ":: ::1 ::1.2.3.4 ::fffe:ffff:ffff ::1:0:0:0 1::ffff:1.2.3.4 64:ff9b::1.2.3.4",
		"1.2.3.4/32":    "1.2.3.5 1.2.3.3 0.2.3.4 ::102:304",
		"128.0.0.0/1":   "127.255.255.255 8000:: ::8000:0",
		"::/96":         "0.0.0.0 1.2.3.4 ::1:0:0 8000::",
		"8000::/1":      "7fff:ffff:ffff:ffff:ffff:ffff:ffff:ffff :: 128.0.0.0",
		"2001:db8::/32": "2001:db7:ffff:ffff:ffff:ffff:ffff:ffff 2001:db9::",
		"1:2:3:4::/64":  "1:2:3:3:ffff:ffff:ffff:ffff 1:2:3:5::",
		"1:2:3:4::/65":  "1:2:3:4:8000:: 1:2:3:5::",
		"1:2:3:4::/63":  "1:2:3:3:: 1:2:3:6::",
		"::1/128":       ":: ::2 0.0.0.1 ::ffff:0:1",
		"::fffe:0:0/95": "::fffd:ffff:ffff ::1:0:0:0",
		"1::fffe/127":   "1::fffd 1::1:0",
	} {
		for _, text := range strings.Fields(l) {
			if read(t, s).Has(readAddr(t, text)) {
				t.Errorf("%s has %s", s, text)
			}
		}
	}
}

// P7.1: each address against each candidate, those that may not be among them.
func TestHasOfManyPrefixes(t *testing.T) {
	list := append(addresses(), nil)
	for _, p := range candidates() {
		for _, a := range list {
			if got, want := p.Has(a), has(p, a); got != want {
				t.Errorf("%+v.Has(%v) = %v, want %v", p, a, got, want)
			}
		}
	}
}

// P7.1: an address with one bit turned over is out of the range, if the bit is one of the prefix's.
func TestHasWithOneBitTurned(t *testing.T) {
	whole := six.Of(0x2001, 0xDB8, 0x1234, 0x5678, 0x9ABC, 0xDEF0, 0xFFFF, 1)
	for n := range 129 {
		p, _ := prefix.Of(whole, n)
		for bit := range 128 {
			a := whole
			if bit < 64 {
				a.Hi ^= 1 << (63 - bit)
			} else {
				a.Lo ^= 1 << (127 - bit)
			}
			if got, want := p.Has(a), bit >= n; got != want {
				t.Errorf("with the length %d, and the bit %d turned over: %v, want %v", n, bit, got, want)
			}
		}
	}
}

// P7.1
func TestCovers(t *testing.T) {
	for _, pair := range [][2]string{
		{"10.0.0.0/8", "10.0.0.0/8"}, {"10.0.0.0/8", "10.0.0.0/9"}, {"10.0.0.0/8", "10.128.0.0/9"}, {"10.0.0.0/8", "10.1.2.3/32"}, {"0.0.0.0/0", "10.0.0.0/8"}, {"0.0.0.0/0", "0.0.0.0/0"},
		{"::/0", "::/0"}, {"::/0", "0.0.0.0/0"}, {"::/0", "8000::/1"}, {"::/0", "::1/128"}, {"::/80", "0.0.0.0/0"}, {"::fffe:0:0/95", "0.0.0.0/0"},
		{"1:2:3:4::/64", "1:2:3:4::/65"}, {"1:2:3:4::/64", "1:2:3:4:8000::/65"}, {"1:2:3:4::/63", "1:2:3:5::/64"}, {"::1/128", "::1/128"}, {"1::fffe/127", "1::ffff/128"},
	} {
		if !read(t, pair[0]).Covers(read(t, pair[1])) {
			t.Errorf("%s doesn't cover %s", pair[0], pair[1])
		}
	}
	for _, pair := range [][2]string{
		{"10.0.0.0/9", "10.0.0.0/8"}, {"10.0.0.0/8", "11.0.0.0/8"}, {"10.0.0.0/8", "11.0.0.0/9"}, {"10.0.0.0/8", "0.0.0.0/0"}, {"10.0.0.0/8", "::a00:0/104"}, {"0.0.0.0/0", "::/0"}, {"0.0.0.0/0", "::/96"}, {"0.0.0.0/0", "::/128"},
		{"::/1", "::/0"}, {"::/1", "8000::/1"}, {"8000::/1", "::/1"}, {"1:2:3:4::/65", "1:2:3:4::/64"}, {"1:2:3:4::/65", "1:2:3:4:8000::/65"}, {"::1/128", "::/128"}, {"::/128", "::/127"}, {"::/127", "::2/128"},
	} {
		if read(t, pair[0]).Covers(read(t, pair[1])) {
			t.Errorf("%s covers %s", pair[0], pair[1])
		}
	}
}

// P7.1: one covers another one, if it has the least and the greatest address of that; where one may not be, it is none.
func TestCoversOfManyPrefixes(t *testing.T) {
	list := candidates()
	for _, p := range list {
		for _, q := range list {
			want := false
			if right(p) && right(q) {
				digits := bits(q.Hi, q.Lo)[:q.Len]
				hi, lo := fromBits(digits + strings.Repeat("1", 128-q.Len))
				want = has(p, six.Addr{Hi: q.Hi, Lo: q.Lo}) && has(p, six.Addr{Hi: hi, Lo: lo})
			}
			if got := p.Covers(q); got != want {
				t.Errorf("%+v.Covers(%+v) = %v, want %v", p, q, got, want)
			}
		}
	}
}

// P7.1: of any Prefix, whether it may be or not.
func TestBit(t *testing.T) {
	for _, n := range numbers() {
		digits := bits(n.Hi, n.Lo)
		for _, length := range []int{-1, 0, 1, 64, 128, 129} {
			p := prefix.Prefix{Hi: n.Hi, Lo: n.Lo, Len: length}
			for i := -200; i <= 400; i++ {
				want := 0
				if i >= 0 && i < 128 {
					want = int(digits[i] - '0')
				}
				if got := p.Bit(i); got != want {
					t.Errorf("%+v.Bit(%d) = %d, want %d", p, i, got, want)
				}
			}
		}
	}
	full := prefix.Prefix{Hi: ones, Lo: ones, Len: 128}
	for _, i := range noLengths {
		if got := full.Bit(i); got != 0 {
			t.Errorf("Bit(%d) = %d, want 0", i, got)
		}
	}
	if full.Bit(128) != 0 || full.Bit(127) != 1 || full.Bit(0) != 1 {
		t.Error("the bits at the ends are others")
	}
}

// P7.2
func TestParse(t *testing.T) {
	for s, want := range map[string]prefix.Prefix{
		"0.0.0.0/0": {Lo: 0xFFFF_0000_0000, Len: 96}, "0.0.0.0/1": {Lo: 0xFFFF_0000_0000, Len: 97}, "0.0.0.0/32": {Lo: 0xFFFF_0000_0000, Len: 128}, "128.0.0.0/1": {Lo: 0xFFFF_8000_0000, Len: 97},
		"10.0.0.0/8": {Lo: 0xFFFF_0A00_0000, Len: 104}, "10.0.0.0/7": {Lo: 0xFFFF_0A00_0000, Len: 103}, "10.0.0.0/9": {Lo: 0xFFFF_0A00_0000, Len: 105}, "1.2.3.4/32": {Lo: 0xFFFF_0102_0304, Len: 128}, "1.2.3.4/30": {Lo: 0xFFFF_0102_0304, Len: 126}, "255.255.255.254/31": {Lo: 0xFFFF_FFFF_FFFE, Len: 127}, "255.255.255.255/32": {Lo: 0xFFFF_FFFF_FFFF, Len: 128},
		"::/0": {}, "::/1": {Len: 1}, "::/63": {Len: 63}, "::/64": {Len: 64}, "::/65": {Len: 65}, "::/95": {Len: 95}, "::/96": {Len: 96}, "::/97": {Len: 97}, "::/127": {Len: 127}, "::/128": {Len: 128},
		"8000::/1": {Hi: 1 << 63, Len: 1}, "0:0:0:2::/63": {Hi: 2, Len: 63}, "0:0:0:1::/64": {Hi: 1, Len: 64}, "0:0:0:0:8000::/65": {Lo: 1 << 63, Len: 65}, "::2:0:0/95": {Lo: 2 << 32, Len: 95}, "::1:0:0/96": {Lo: 1 << 32, Len: 96}, "::8000:0/97": {Lo: 1 << 31, Len: 97}, "::2/127": {Lo: 2, Len: 127}, "::1/128": {Lo: 1, Len: 128},
		"::ffff:0:0/96": {Lo: 0xFFFF_0000_0000, Len: 96}, "::ffff:10.0.0.0/104": {Lo: 0xFFFF_0A00_0000, Len: 104}, "::10.0.0.0/104": {Lo: 0x0A00_0000, Len: 104}, "::FFFF:a00:0/104": {Lo: 0xFFFF_0A00_0000, Len: 104},
		"2001:DB8::/32": {Hi: 0x2001_0DB8_0000_0000, Len: 32}, "2001:0db8:0:0::0:0/32": {Hi: 0x2001_0DB8_0000_0000, Len: 32}, "fc00::/7": {Hi: 0xFC00_0000_0000_0000, Len: 7}, "1:2:3:4:5:6:7:8/128": {Hi: 0x0001_0002_0003_0004, Lo: 0x0005_0006_0007_0008, Len: 128}, "1:2:3:4:5:6:7:8/125": {Hi: 0x0001_0002_0003_0004, Lo: 0x0005_0006_0007_0008, Len: 125}, "ffff:ffff:ffff:ffff:ffff:ffff:ffff:ffff/128": {Hi: ones, Lo: ones, Len: 128},
	} {
		if got, ok := prefix.Parse(s); !ok || got != want {
			t.Errorf("Parse(%q) = %+v, %v, want %+v", s, got, ok, want)
		}
	}
}

// P7.2
func TestParseOfNoPrefix(t *testing.T) {
	for _, s := range []string{
		"", "/", "//", "/0", "/8", "8", "0/0", "10/8", "a/8", "a.b/8", "localhost/8", "\xFF/8",
		// no number
		"10.0.0.0", "10.0.0.0/", "::", "::/", "10.0.0.0/a", "10.0.0.0/x", "10.0.0.0/0x8", "::/0x0", "10.0.0.0/+8", "10.0.0.0/-8", "::/-1", "::/-0", "::/+0", "10.0.0.0/8.0", "10.0.0.0/8a", "10.0.0.0/a8", "::/1e1", "10.0.0.0/255.0.0.0", "::/\u0661", "::/\xFF", "::/0\x00", "10.0.0.0/::",
		// noughts ahead
		"10.0.0.0/08", "0.0.0.0/00", "::/00", "::/000", "::/01", "::/064", "1.2.3.4/032", "::/0128",
		// too great
		"0.0.0.0/33", "1.2.3.4/33", "0.0.0.0/64", "0.0.0.0/96", "0.0.0.0/104", "0.0.0.0/128", "0.0.0.0/129", "::/129", "::/130", "::/200", "::/256", "::/1000", "::ffff:0:0/129", "::/4294967296", "::/18446744073709551616", "0.0.0.0/18446744073709551616", "::/9223372036854775808", "0.0.0.0/9223372036854775807", "::/36893488147419103232",
		// no address of its sort
		"10.0.0/8", "10.0/8", "10.0.0.0.0/8", "10.0.0.0./8", "010.0.0.0/8", "0x0a.0.0.0/8", "0xa000000/8", "167772160/8", "10.0.0.256/8", "256.0.0.0/8", ".0.0.0/8", "10..0.0/8", "1:2:3:4:5:6:7/0", ":::/0", "1::2::3/0", "12345::/0", "::g/0", "[::]/0", "fe80::%1/64", "::1.2.3/128", "::01.2.3.4/128",
		// blanks, and further slashes
		" 10.0.0.0/8", "10.0.0.0/8 ", "10.0.0.0 /8", "10.0.0.0/ 8", "10.0.0.0/8\n", "\t::/0", "::/0\x00", "10.0.0.0//8", "10.0.0.0/8/", "10.0.0.0/8/8", "/10.0.0.0/8", "::/0/0", "10.0.0.0\\8",
		// bits behind the length
		"10.0.0.1/8", "10.128.0.0/8", "11.0.0.0/7", "0.0.0.1/0", "128.0.0.0/0", "64.0.0.0/1", "1.2.3.4/29", "1.2.3.5/31", "255.255.255.255/31", "255.255.255.255/0",
		"::1/0", "8000::/0", "4000::/1", "::1/1", "0:0:0:1::/63", "0:0:0:0:8000::/64", "0:0:0:0:4000::/65", "::1:0:0/95", "::8000:0/96", "::4000:0/97", "::1/64", "::1/127", "::3/127", "::ffff:0:0/95", "::ffff:0:0/0", "::ffff:10.0.0.0/8", "::ffff:10.0.0.1/104", "::10.0.0.0/8", "2001:db8::1/32", "1:2:3:4:5:6:7:8/124",
	} {
		if got, ok := prefix.Parse(s); ok || got != (prefix.Prefix{}) {
			t.Errorf("Parse(%q) = %+v, %v, want none", s, got, ok)
		}
	}
}

// P7.2: each address with each number behind it, as each sort bounds it.
func TestParseOfEachLength(t *testing.T) {
	for _, a := range addresses() {
		ahead := 0
		if _, is := a.(four.Addr); is {
			ahead = 96
		}
		hi, lo := a.Wide()
		for n := -3; n <= 300; n++ {
			s := a.Text() + "/" + strconv.Itoa(n)
			want := prefix.Prefix{Hi: hi, Lo: lo, Len: ahead + n}
			may := n >= 0 && right(want)
			if !may {
				want = prefix.Prefix{}
			}
			if got, ok := prefix.Parse(s); ok != may || got != want {
				t.Errorf("Parse(%q) = %+v, %v, want %+v, %v", s, got, ok, want, may)
			}
			if got, ok := prefix.Parse(a.Text() + "/0" + strconv.Itoa(n)); ok || got != (prefix.Prefix{}) {
				t.Errorf("Parse(%q) with a nought ahead = %+v, %v", s, got, ok)
			}
		}
	}
}

// P7.2
func TestText(t *testing.T) {
	for want, p := range map[string]prefix.Prefix{
		"::/0": {}, "::/64": {Len: 64}, "::/96": {Len: 96}, "::/128": {Len: 128}, "::a00:0/104": {Lo: 0x0A00_0000, Len: 104}, "8000::/1": {Hi: 1 << 63, Len: 1}, "2001:db8::/32": {Hi: 0x2001_0DB8_0000_0000, Len: 32}, "1:0:0:2::/64": {Hi: 0x0001_0000_0000_0002, Len: 64}, "ffff:ffff:ffff:ffff:ffff:ffff:ffff:ffff/128": {Hi: ones, Lo: ones, Len: 128},
		"0.0.0.0/0": {Lo: 0xFFFF_0000_0000, Len: 96}, "0.0.0.0/1": {Lo: 0xFFFF_0000_0000, Len: 97}, "10.0.0.0/8": {Lo: 0xFFFF_0A00_0000, Len: 104}, "255.255.255.254/31": {Lo: 0xFFFF_FFFF_FFFE, Len: 127}, "1.2.3.4/32": {Lo: 0xFFFF_0102_0304, Len: 128},
		// beside the addresses of four bytes
		"::fffe:0:0/96": {Lo: 0xFFFE_0000_0000, Len: 96}, "::fffe:0:0/95": {Lo: 0xFFFE_0000_0000, Len: 95}, "::1:ffff:0:0/96": {Lo: 0x1_FFFF_0000_0000, Len: 96}, "::1:0:ffff:a00:0/104": {Hi: 1, Lo: 0xFFFF_0A00_0000, Len: 104}, "8000::ffff:a00:0/104": {Hi: 1 << 63, Lo: 0xFFFF_0A00_0000, Len: 104}, "::8000:ffff:0:0/96": {Lo: 0x8000_FFFF_0000_0000, Len: 96},
		// such as may not be
		"::ffff:0:0/95": {Lo: 0xFFFF_0000_0000, Len: 95}, "::ffff:a01:203/8": {Lo: 0xFFFF_0A01_0203, Len: 8}, "10.1.2.3/8": {Lo: 0xFFFF_0A01_0203, Len: 104}, "10.1.2.3/0": {Lo: 0xFFFF_0A01_0203, Len: 96}, "10.1.2.3/33": {Lo: 0xFFFF_0A01_0203, Len: 129}, "::ffff:a01:203/-1": {Lo: 0xFFFF_0A01_0203, Len: -1}, "::/-1": {Len: -1}, "::/129": {Len: 129}, "::1/0": {Lo: 1}, "1::1/300": {Hi: 1 << 48, Lo: 1, Len: 300},
		"::/9223372036854775807": {Len: math.MaxInt}, "::/-9223372036854775808": {Len: math.MinInt}, "0.0.0.1/9223372036854775711": {Lo: 0xFFFF_0000_0001, Len: math.MaxInt}, "::ffff:0:1/-9223372036854775808": {Lo: 0xFFFF_0000_0001, Len: math.MinInt},
	} {
		if got := p.Text(); got != want {
			t.Errorf("Text of %+v = %q, want %q", p, got, want)
		}
	}
}

// P7.3: what is read of the Text of one that may be is it.
func TestTextIsRead(t *testing.T) {
	for _, a := range addresses() {
		for n := range 129 {
			p, _ := prefix.Of(a, n)
			if got, ok := prefix.Parse(p.Text()); !ok || got != p {
				t.Errorf("Parse(%q) = %+v, %v, want %+v", p.Text(), got, ok, p)
			}
		}
	}
}

// P7.3: two either have no address together, or one covers the other one.
func TestTwoPrefixes(t *testing.T) {
	next := chance()
	some := func() prefix.Prefix {
		// Few numbers, so that many of the prefixes are within one another.
		a := six.Addr{Hi: uint64(next(4)) << 62, Lo: uint64(next(4))<<62 | uint64(next(4))<<30 | uint64(next(4))}
		p, _ := prefix.Of(a, lengths[next(len(lengths))])
		return p
	}
	apart, within := 0, 0
	for range 20000 {
		p, q := some(), some()
		// They have one together, if the number of the longer one is one.
		together := has(p, six.Addr{Hi: q.Hi, Lo: q.Lo}) || has(q, six.Addr{Hi: p.Hi, Lo: p.Lo})
		if covers := p.Covers(q) || q.Covers(p); covers != together {
			t.Errorf("%s and %s: one covers the other one: %v, want %v", p.Text(), q.Text(), covers, together)
		}
		if p.Covers(q) && q.Covers(p) != (p == q) {
			t.Errorf("%s and %s cover each other", p.Text(), q.Text())
		}
		if together {
			within++
			continue
		}
		apart++
		for _, n := range []int{p.Len, q.Len, 64, 128} {
			one, _ := prefix.Of(six.Addr{Hi: p.Hi, Lo: p.Lo}, n)
			if a := (six.Addr{Hi: one.Hi, Lo: one.Lo}); p.Has(a) && q.Has(a) {
				t.Errorf("%s and %s both have %s", p.Text(), q.Text(), a.Text())
			}
		}
	}
	if apart < 1000 || within < 1000 {
		t.Errorf("but %d of the pairs are apart, %d aren't", apart, within)
	}
}

// P1: each call ends, and none panics; beside a false stands nothing.
func TestNoneOfTheCallsPanics(t *testing.T) {
	const signs = "0019:./fF-+ \x00\xFF"
	next := chance()
	read := 0
	for range 200000 {
		text := make([]byte, next(12))
		for i := range text {
			text[i] = signs[next(len(signs))]
		}
		p, ok := prefix.Parse(string(text))
		if !ok && p != (prefix.Prefix{}) {
			t.Errorf("Parse(%q) = %+v beside false", text, p)
		}
		if ok {
			read++
			if !p.Right() {
				t.Errorf("Parse(%q) = %+v, which isn't right", text, p)
			}
		}
	}
	if read == 0 {
		t.Error("none of the texts is a prefix")
	}
	for _, p := range candidates() {
		p.Text()
		p.Bit(p.Len)
		p.Has(nil)
		p.Covers(p)
	}
	for _, part := range []string{"/", ":", "::", ".", "1:", "1.", "1.2.3.4/", "::/", "0"} {
		for _, s := range []string{strings.Repeat(part, 10000), "::/" + strings.Repeat(part, 10000), "1.2.3.4/" + strings.Repeat(part, 10000)} {
			if p, ok := prefix.Parse(s); ok || p != (prefix.Prefix{}) {
				t.Errorf("a text of many %q is a prefix", part)
			}
		}
	}
}
