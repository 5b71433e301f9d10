package host_test

import (
	"fmt"
	"math/big"
	"regexp"
	"strings"
	"testing"

	"mantrap/addr"
	"mantrap/api"
	"mantrap/domain"
	"mantrap/four"
	"mantrap/host"
	"mantrap/six"
)

// plain are the signs that a name may have, beside the point.
const plain = "abcdefghijklmnopqrstuvwxyz0123456789!$&'()*+,-;=_~"

const label = "[a-z0-9!$&'()*+,;=_~-]{1,63}"

var (
	hidden = regexp.MustCompile(`%[0-9A-Fa-f]{2}`)
	shape  = regexp.MustCompile(`\A` + label + `(\.` + label + `)*\.?\z`)
	coded  = regexp.MustCompile(`(\A|\.)xn--`)
	ends   = regexp.MustCompile(`(\A|\.)([0-9]+|0x[0-9a-f]*)\.?\z`)
)

// parse tells what Parse has to of a text that doesn't begin with [, by expressions.
func parse(s string) (host.Host, api.Errno) {
	s = hidden.ReplaceAllStringFunc(s, func(three string) string {
		n, _ := new(big.Int).SetString(three[1:], 16)
		return string([]byte{byte(n.Uint64())})
	})
	small := strings.ToLower(s)
	switch {
	case strings.ContainsFunc(s, func(r rune) bool { return r > 0x7F }): // FFFD as well, for what isn't right
		return nil, api.ErrIDN
	case !shape.MatchString(small) || len(strings.TrimSuffix(small, ".")) > 253:
		return nil, api.ErrHost
	case coded.MatchString(small):
		return nil, api.ErrIDN
	case !ends.MatchString(small):
		return domain.Name(small), api.OK
	}
	sum, ok := number(strings.Split(strings.TrimSuffix(small, "."), "."))
	if !ok {
		return nil, api.ErrHost
	}
	return four.Addr(sum.Uint64()), api.OK
}

// number tells the address that one to four parts are, by numbers of any size.
func number(parts []string) (*big.Int, bool) {
	sum, room := new(big.Int), int64(1)<<32
	for i, part := range parts {
		if room == 1 {
			return nil, false
		}
		bound := room
		room /= 256
		if i < len(parts)-1 {
			bound = 256
		}
		n, ok := count(part)
		if !ok || n.Cmp(big.NewInt(bound)) >= 0 {
			return nil, false
		}
		if i < len(parts)-1 {
			n.Mul(n, big.NewInt(room))
		}
		sum.Add(sum, n)
	}
	return sum, true
}

// count tells the number that one part is.
func count(s string) (*big.Int, bool) {
	switch {
	case strings.Trim(s, "0123456789abcdefx") != "":
		return nil, false
	case s == "0x":
		return new(big.Int), true
	case strings.HasPrefix(s, "0x"):
		return new(big.Int).SetString(s[2:], 16)
	case len(s) > 1 && s[0] == '0':
		return new(big.Int).SetString(s[1:], 8)
	}
	return new(big.Int).SetString(s, 10)
}

// check holds Parse of a text against what it has to tell.
func check(t *testing.T, s string, want host.Host, e api.Errno) {
	t.Helper()
	if got, err := host.Parse(s); got != want || err != e {
		t.Errorf("Parse(%q) = %T %v, %d, want %T %v, %d", s, got, got, err, want, want, e)
	}
}

// chance tells a source of numbers that look like chance, the same ones at each run.
func chance() func(below int) int {
	state := uint64(1)
	return func(below int) int {
		state = state*6364136223846793005 + 1442695040888963407
		return int((state >> 33) % uint64(below))
	}
}

// cover tells a text some of whose bytes are written by %, so that it is decoded to it.
func cover(s string, next func(int) int) string {
	out := ""
	for i := range len(s) {
		switch next(4) {
		case 0:
			out += fmt.Sprintf("%%%02x", s[i])
		case 1:
			out += fmt.Sprintf("%%%02X", s[i])
		default:
			out += s[i : i+1]
		}
	}
	return out
}

// texts hands over texts of parts most of which may be of a name, or of an address.
func texts(do func(s string)) {
	parts := []string{
		"0", "1", "8", "127", "255", "0x7f", "0X7F", "0x", "0377", "a", "b", "Bc", "www", "-", "a1", "1a", "0xg",
		"256", "65535", "65536", "16777216", "4294967295", "4294967296", "0x100", "0xffffffff", "08", "0400", "1099511627777", "18446744073709551617",
		"%31", "%30x7F", "0%787f", "%2e", "1%2E2", "a%2eb", "%41", "%2541", "%25", "%", "%4", "%zz", "%E9", "%c3%a9", "%5b", "%5D", "%20", "%00", "%7F", "%80", "%40", "%3a", "%2f",
		"", "xn--a", "XN--", "%78n--a", "a b", "[", "]", ":", "@", "/", "\\", "\x80", "\u00E9", "\uFF11", strings.Repeat("a", 63), strings.Repeat("a", 64), strings.Repeat("0", 63), "0x" + strings.Repeat("0", 60) + "1",
	}
	const right = 17
	next := chance()
	for range 200000 {
		list := make([]string, 1+next(5))
		for i := range list {
			list[i] = parts[next(right)]
			if next(6) == 0 {
				list[i] = parts[next(len(parts))]
			}
		}
		do(strings.Join(list, ".") + []string{"", "", "", ".", "%2E"}[next(5)])
	}
}

// hosts hands over addresses of both sorts, at the edges and many others.
func hosts(do func(h host.Host)) {
	next := chance()
	edges := []uint64{0, 1, 0x7F000001, 0xFFFFFFFF, 0xFFFF_7F00_0001, 1 << 63, 0xFFFF_FFFF_FFFF_FFFF, 0x2001_0DB8_0000_0000, 0xFE80_0000_0000_0000, 0x0064_FF9B_0000_0000}
	for _, hi := range edges {
		for _, lo := range edges {
			do(six.Addr{Hi: hi, Lo: lo})
			do(four.Addr(lo))
		}
	}
	for range 20000 {
		do(four.Of(byte(next(256)), byte(next(256)), byte(next(256)), byte(next(256))))
		var pieces [8]uint16
		for i := range pieces {
			if next(3) > 0 {
				pieces[i] = uint16(next(1 << 16))
			}
		}
		do(six.Of(pieces[:]...))
	}
}

// panics tells whether a call does so.
func panics(call func()) (did bool) {
	defer func() { did = recover() != nil }()
	call()
	return false
}

// P12.1
func TestParseOfNames(t *testing.T) {
	for s, want := range map[string]domain.Name{
		"a": "a", "A.b": "a.b", "EXAMPLE.com.": "example.com.", "localhost": "localhost", "www.example.com": "www.example.com", "a.": "a.", "!$&'()*+,-;=_~": "!$&'()*+,-;=_~",
		"a%62": "ab", "%41": "a", "%61.%42.": "a.b.", "a%2eb": "a.b", "a%2Eb%2e": "a.b.", "%65xample%2Ecom": "example.com", "%7e": "~", "%7E%21": "~!",
		"1a": "1a", "a1": "a1", "1.a": "1.a", "1.2.3.4.a": "1.2.3.4.a", "127.0.0.1.example": "127.0.0.1.example", "0xg": "0xg", "0x7g.": "0x7g.", "1.0xg": "1.0xg", "a.0xg.": "a.0xg.", "-1": "-1", "a.-1": "a.-1", "+1": "+1", "1_0": "1_0", "1e3": "1e3", "x7f": "x7f", "ff": "ff", "1.ff": "1.ff", "0.0.0.0x0x": "0.0.0.0x0x",
		"%31.%61": "1.a", "a.%31b": "a.1b", "axn--b": "axn--b", "a.bxn--c": "a.bxn--c",
		strings.Repeat("%61", 63): domain.Name(strings.Repeat("a", 63)), strings.Repeat("a.", 127): domain.Name(strings.Repeat("a.", 127)), strings.Repeat("a%2e", 126) + "a": domain.Name(strings.Repeat("a.", 126) + "a"),
	} {
		check(t, s, want, api.OK)
	}
}

// P12.1: an address of four bytes in each of its forms, with a point behind, and hidden by %.
func TestParseOfFour(t *testing.T) {
	for s, want := range map[string]string{
		"127.0.0.1": "127.0.0.1", "127.0.0.1.": "127.0.0.1", "0x7f.1": "127.0.0.1", "0X7F.1": "127.0.0.1", "0X7F.1.": "127.0.0.1", "017700000001": "127.0.0.1", "2130706433": "127.0.0.1", "0x7f000001": "127.0.0.1", "0X7F000001": "127.0.0.1", "127.1": "127.0.0.1", "127.0.1": "127.0.0.1", "0177.0.0.1": "127.0.0.1", "0177.0x0.00.01": "127.0.0.1", "127.0x1": "127.0.0.1",
		"%31%32%37.0.0.1": "127.0.0.1", "%30x7F.1": "127.0.0.1", "0%587f.1": "127.0.0.1", "127%2e0%2E0%2e1": "127.0.0.1", "127.0.0.1%2e": "127.0.0.1", "%32130706433": "127.0.0.1", "0x7%46.1": "127.0.0.1", "0x7%66.1": "127.0.0.1",
		"0": "0.0.0.0", "0.": "0.0.0.0", "1": "0.0.0.1", "256": "0.0.1.0", "4294967295": "255.255.255.255", "0xFFFFFFFF": "255.255.255.255", "037777777777": "255.255.255.255", "1.16777215": "1.255.255.255", "1.2.65535": "1.2.255.255", "255.255.255.255": "255.255.255.255",
		"0x": "0.0.0.0", "0X": "0.0.0.0", "0x.": "0.0.0.0", "1.0x": "1.0.0.0", "0x.0x.0x.0x": "0.0.0.0", "00": "0.0.0.0", "010.8.8.8": "8.8.8.8", "0x" + strings.Repeat("0", 60) + "1": "0.0.0.1",
	} {
		a, ok := four.Strict(want)
		if !ok {
			t.Fatalf("%q is no address", want)
		}
		check(t, s, a, api.OK)
	}
}

// P12.1: names that end in a number, but are no address.
func TestParseOfNoFour(t *testing.T) {
	for _, s := range []string{
		"1.2.3.4.5", "1.2.3.4.5.", "0.0.0.0.0", "1.2.3.4.0x", "a.1", "a.1.", "a.0x", "a.0x.", "a.0X7f", "a.08", "a.b.08.", "1.2.3.a.4", "a.2.3.4", "1.a.3.4", "www.example.1", "0xg.1", "-1.1", "ff.1",
		"256.1", "256.0.0.1", "1.256.3.4", "1.2.256.4", "1.2.3.256", "1.2.65536", "1.16777216", "4294967296", "4294967296.", "0x100000000", "040000000000", "99999999999999999999", "18446744073709551617", "1.2.3.0x100", "1.2.3.0400",
		"08", "09", "08.", "1.08", "1.2.3.09", "08.1", "1.08.1",
		"%31.2.3.4.5", "a%2e1", "a.%31", "a.0%78", "%30%38", "1.2.3.25%36", "a%2E%31%2e",
	} {
		check(t, s, nil, api.ErrHost)
	}
}

// P12.1
func TestParseOfSix(t *testing.T) {
	for s, want := range map[string]six.Addr{
		"[::]": {}, "[::1]": {Lo: 1}, "[1::]": six.Of(1), "[2001:DB8::1]": six.Of(0x2001, 0xDB8, 0, 0, 0, 0, 0, 1), "[2001:db8:0:0:0:0:0:1]": six.Of(0x2001, 0xDB8, 0, 0, 0, 0, 0, 1), "[1:2:3:4:5:6:7:8]": six.Of(1, 2, 3, 4, 5, 6, 7, 8),
		"[::1.2.3.4]": {Lo: 0x01020304}, "[::ffff:127.0.0.1]": {Lo: 0xFFFF_7F00_0001}, "[::FFFF:7F00:1]": {Lo: 0xFFFF_7F00_0001}, "[64:ff9b::1.2.3.4]": {Hi: 0x0064_FF9B_0000_0000, Lo: 0x01020304}, "[0001::0002]": six.Of(1, 0, 0, 0, 0, 0, 0, 2),
	} {
		check(t, s, want, api.OK)
	}
}

// P12.1: texts that begin with [, or end in ], or have them elsewhere.
func TestParseOfNoSix(t *testing.T) {
	for _, s := range []string{
		"[", "[]", "]", "[[", "]]", "][", "[[]]", "[ ]", "[:]", "[::", "[::1", "::1]", "::1", "::", "[::1]]", "[[::1]", "[[::1]]", "[::1]x", "[::1]:80", "[::1].", "[::1] ", "x[::1]", " [::1]", ".[::1]",
		"[ ::1]", "[::1 ]", "[ ::1 ]", "[:: 1]", "[::1\n]", "[\t::1]", "[::1]\n", "[::1\x00]",
		"[1.2.3.4]", "[127.0.0.1]", "[0x7f.1]", "[1]", "[a]", "[a.b]", "[example.com]", "[localhost]", "[0]",
		"[1:2:3:4:5:6:7]", "[1:2:3:4:5:6:7:8:9]", "[1:2:3:4:5:6:7:8::]", "[::1::]", "[:::]", "[12345::]", "[::g]", "[::1.2.3]", "[::1.2.3.256]", "[::01.2.3.4]", "[::0x7f.1]", "[1.2.3.4::]", "[fe80::1%1]", "[fe80::1%251]", "[::1/128]", "[v1.a]",
		// What stands between isn't decoded, and brackets that are hidden are none.
		"[::%31]", "[%3a%3A1]", "[::1%5D", "%5B::1%5D", "%5b::1]", "%5B::1]", "[::1%5d]", "%5B%5D", "%5B", "%5D", "%5B1.2.3.4%5D", "[%5B::1%5D]",
		// Nor is it a name, whatever its letters are.
		"[\u00E9]", "[\xFF]", "[::1\xFF]", "[xn--a]", "[\u00E9", "[%E9]", "[xn--a",
	} {
		check(t, s, nil, api.ErrHost)
	}
	for _, s := range []string{"\u00E9]", "\xFF[", "x[::1]\xFF", "]\x80"} {
		check(t, s, nil, api.ErrIDN)
	}
}

// P12.1: what is no name, with layer 11's error, also where % hides it.
func TestParseOfNoName(t *testing.T) {
	for s, e := range map[string]api.Errno{
		"": api.ErrHost, ".": api.ErrHost, "..": api.ErrHost, "a..": api.ErrHost, "a..b": api.ErrHost, ".a": api.ErrHost, ".1": api.ErrHost, "1..": api.ErrHost, "1.2.3.4..": api.ErrHost, "127.0.0.1 ": api.ErrHost, " 1": api.ErrHost, "a b": api.ErrHost, "a:80": api.ErrHost, "u@a": api.ErrHost, "a/b": api.ErrHost, "a\\b": api.ErrHost, "a\n": api.ErrHost,
		"%": api.ErrHost, "a%": api.ErrHost, "a%4": api.ErrHost, "a%zz": api.ErrHost, "%25": api.ErrHost, "%2541": api.ErrHost, "%2531": api.ErrHost, "%%31": api.ErrHost, "a%25b": api.ErrHost, "%2e": api.ErrHost, "%2E%2e": api.ErrHost, "a%2e.": api.ErrHost, "a.%2Eb": api.ErrHost, "%2e1": api.ErrHost,
		"%00": api.ErrHost, "%20": api.ErrHost, "a%20b": api.ErrHost, "%7f": api.ErrHost, "a%0A": api.ErrHost, "a%2fb": api.ErrHost, "u%40a": api.ErrHost, "a%3A80": api.ErrHost, "a%5Cb": api.ErrHost, "a%23": api.ErrHost, "a%3F": api.ErrHost, "a%09b": api.ErrHost, "127.0.0.1%00": api.ErrHost, "127.0.0.1%20": api.ErrHost,
		"\u00E9": api.ErrIDN, "\xFF": api.ErrIDN, "a.\x80": api.ErrIDN, "%80": api.ErrIDN, "%FF": api.ErrIDN, "%c3%a9": api.ErrIDN, "%E9": api.ErrIDN, "a%E9b": api.ErrIDN, "1.2.3.4%ff": api.ErrIDN, "%EF%BC%91": api.ErrIDN, "127\u30020\u30020\u30021": api.ErrIDN, "\uFF11\uFF12\uFF17.0.0.1": api.ErrIDN, "\u212A": api.ErrIDN, "\xFF[": api.ErrIDN, "%FF%20": api.ErrIDN, "%20%FF": api.ErrIDN,
		"xn--a": api.ErrIDN, "XN--A.b": api.ErrIDN, "a.xn--b.": api.ErrIDN, "%78n--a": api.ErrIDN, "x%4E--a": api.ErrIDN, "xn-%2da": api.ErrIDN, "a%2exn--b": api.ErrIDN, "xn--": api.ErrIDN, "xn--a.1": api.ErrIDN, "xn--a.1.2.3.4.5": api.ErrIDN,
		"xn--a b": api.ErrHost, "xn--a%20": api.ErrHost, "xn--a..": api.ErrHost,
		strings.Repeat("a", 64): api.ErrHost, strings.Repeat("a", 63) + "%61": api.ErrHost, strings.Repeat("0", 63) + "1": api.ErrHost, strings.Repeat("a.", 127) + "a": api.ErrHost, strings.Repeat("a.", 127) + "1": api.ErrHost,
	} {
		check(t, s, nil, e)
	}
}

// P12.1: each byte within a name, as it is and by %.
func TestParseOfEachByte(t *testing.T) {
	for c := range 256 {
		b := string([]byte{byte(c)})
		for _, around := range [][2]string{{"", ""}, {"a", "b"}, {"", "b"}, {"a", ""}, {"a.b", "c.d"}, {"1.2.", "a"}, {"a.", "."}} {
			want, e := host.Host(nil), api.ErrHost
			small := strings.ToLower(b)
			switch {
			case c >= 0x80:
				e = api.ErrIDN
			case b == "." && around[0] != "" && !strings.HasSuffix(around[0], "."):
				want, e = domain.Name(around[0]+b+around[1]), api.OK
			case '0' <= c && c <= '9' && (around[0] == "" && around[1] == ""):
				want, e = four.Addr(c-'0'), api.OK
			case '0' <= c && c <= '9' && around[1] == ".": // a.0. and so on
			case strings.Contains(plain, small):
				want, e = domain.Name(around[0]+small+around[1]), api.OK
			}
			if c != '%' && (c != '[' || around[0] != "") {
				check(t, around[0]+b+around[1], want, e)
			}
			check(t, around[0]+fmt.Sprintf("%%%02x", c)+around[1], want, e)
			check(t, around[0]+fmt.Sprintf("%%%02X", c)+around[1], want, e)
			check(t, around[0]+fmt.Sprintf("%%25%02X", c)+around[1], nil, api.ErrHost) // it isn't decoded twice
		}
	}
}

// P12.1: addresses of four bytes, of one to four parts, each to one of the bases, with great letters, noughts, a point behind and %.
func TestParseOfManyForms(t *testing.T) {
	next := chance()
	for range 100000 {
		a := four.Of(byte(next(256)), byte(next(256)), byte(next(256)), byte(next(256)))
		n, count := uint64(a), 1+next(4)
		s := ""
		for i := range count {
			part := n >> (24 - 8*i) & 0xFF
			if i == count-1 {
				part = n & (1<<(32-8*i) - 1)
			}
			s += fmt.Sprintf([]string{"%d", "0%o", "000%o", "0x%x", "0X%X", "0x00%X"}[next(6)], part)
			if i < count-1 || next(4) == 0 {
				s += "."
			}
		}
		check(t, s, a, api.OK)
		check(t, cover(s, next), a, api.OK)
		check(t, "a."+s, nil, api.ErrHost)
		check(t, strings.TrimSuffix(s, ".")+".a", domain.Name(strings.ToLower(strings.TrimSuffix(s, "."))+".a"), api.OK)
		check(t, "["+s+"]", nil, api.ErrHost)
	}
}

// P12.1
func TestParseOfManyTexts(t *testing.T) {
	kinds, errors := map[string]int{}, map[api.Errno]int{}
	texts(func(s string) {
		if strings.HasPrefix(s, "[") {
			check(t, s, nil, api.ErrHost) // none of the texts is of eight pieces
			return
		}
		want, e := parse(s)
		check(t, s, want, e)
		errors[e]++
		kinds[host.Kind(want)]++
	})
	for _, kind := range []string{"name", "four"} {
		if kinds[kind] < 5000 {
			t.Errorf("but %d of the texts are of the kind %s", kinds[kind], kind)
		}
	}
	for _, e := range []api.Errno{api.ErrHost, api.ErrIDN} {
		if errors[e] < 2000 {
			t.Errorf("but %d of the texts are of the error %d", errors[e], e)
		}
	}
}

// P12.1: what stands between brackets is read as layer 5 reads it.
func TestParseOfManyBrackets(t *testing.T) {
	const signs = "01fF::::.%[] x"
	next := chance()
	read := 0
	for range 300000 {
		text := make([]byte, next(10))
		for i := range text {
			text[i] = signs[next(len(signs))]
		}
		s := string(text)
		a, ok := six.Parse(s)
		if ok {
			read++
			check(t, "["+s+"]", a, api.OK)
		} else {
			check(t, "["+s+"]", nil, api.ErrHost)
		}
		if !strings.HasSuffix(s, "]") {
			check(t, "["+s, nil, api.ErrHost)
		}
	}
	if read < 1000 {
		t.Errorf("but %d of the texts are addresses", read)
	}
}

// P12.2: each call, of each sort of host.
func TestSorts(t *testing.T) {
	for _, c := range []struct {
		h       host.Host
		written string
		address addr.Addr
		name    domain.Name
		kind    string
		right   bool
	}{
		{nil, "", nil, "", "none", false},
		{four.Addr(0), "0.0.0.0", four.Addr(0), "", "four", true},
		{four.Of(127, 0, 0, 1), "127.0.0.1", four.Of(127, 0, 0, 1), "", "four", true},
		{four.Of(255, 255, 255, 255), "255.255.255.255", four.Of(255, 255, 255, 255), "", "four", true},
		{six.Addr{}, "[::]", six.Addr{}, "", "six", true},
		{six.Addr{Lo: 1}, "[::1]", six.Addr{Lo: 1}, "", "six", true},
		{six.Addr{Lo: 0xFFFF_7F00_0001}, "[::ffff:7f00:1]", six.Addr{Lo: 0xFFFF_7F00_0001}, "", "six", true},
		{six.Of(1, 2, 3, 4, 5, 6, 7, 8), "[1:2:3:4:5:6:7:8]", six.Of(1, 2, 3, 4, 5, 6, 7, 8), "", "six", true},
		{domain.Name("a"), "a", nil, "a", "name", true},
		{domain.Name("a.b."), "a.b.", nil, "a.b.", "name", true},
		{domain.Name("1.2.3.4.a"), "1.2.3.4.a", nil, "1.2.3.4.a", "name", true},
		{domain.Name("0xg"), "0xg", nil, "0xg", "name", true},
		{domain.Name("!$&'()*+,-;=_~"), "!$&'()*+,-;=_~", nil, "!$&'()*+,-;=_~", "name", true},
		// Names that may not be, or end in a number.
		{domain.Name(""), "", nil, "", "name", false},
		{domain.Name("."), ".", nil, ".", "name", false},
		{domain.Name("a.."), "a..", nil, "a..", "name", false},
		{domain.Name("A"), "A", nil, "A", "name", false},
		{domain.Name("a.B."), "a.B.", nil, "a.B.", "name", false},
		{domain.Name("a b"), "a b", nil, "a b", "name", false},
		{domain.Name("a%62"), "a%62", nil, "a%62", "name", false},
		{domain.Name("[::1]"), "[::1]", nil, "[::1]", "name", false},
		{domain.Name("::1"), "::1", nil, "::1", "name", false},
		{domain.Name("xn--a"), "xn--a", nil, "xn--a", "name", false},
		{domain.Name("\u00E9"), "\u00E9", nil, "\u00E9", "name", false},
		{domain.Name("\xFF"), "\xFF", nil, "\xFF", "name", false},
		{domain.Name(strings.Repeat("a", 64)), strings.Repeat("a", 64), nil, domain.Name(strings.Repeat("a", 64)), "name", false},
		{domain.Name("127.0.0.1"), "127.0.0.1", nil, "127.0.0.1", "name", false},
		{domain.Name("127.0.0.1."), "127.0.0.1.", nil, "127.0.0.1.", "name", false},
		{domain.Name("0x7f.1"), "0x7f.1", nil, "0x7f.1", "name", false},
		{domain.Name("a.1"), "a.1", nil, "a.1", "name", false},
		{domain.Name("a.08."), "a.08.", nil, "a.08.", "name", false},
		{domain.Name("0x"), "0x", nil, "0x", "name", false},
		{domain.Name("1.2.3.4.5"), "1.2.3.4.5", nil, "1.2.3.4.5", "name", false},
	} {
		if got := host.Write(c.h); got != c.written {
			t.Errorf("Write(%T %v) = %q, want %q", c.h, c.h, got, c.written)
		}
		if got, ok := host.Addr(c.h); got != c.address || ok != (c.address != nil) {
			t.Errorf("Addr(%T %v) = %v, %v, want %v", c.h, c.h, got, ok, c.address)
		}
		if got, ok := host.Name(c.h); got != c.name || ok != (c.kind == "name") {
			t.Errorf("Name(%T %v) = %q, %v, want %q", c.h, c.h, got, ok, c.name)
		}
		if got := host.Kind(c.h); got != c.kind {
			t.Errorf("Kind(%T %v) = %q, want %q", c.h, c.h, got, c.kind)
		}
		if got := host.Right(c.h); got != c.right {
			t.Errorf("Right(%T %v) = %v, want %v", c.h, c.h, got, c.right)
		}
		if did := panics(func() { host.Must(c.h) }); did != (c.kind != "name") {
			t.Errorf("Must(%T %v) panics: %v", c.h, c.h, did)
		}
		if c.kind == "name" && host.Must(c.h) != c.name {
			t.Errorf("Must(%q) = %q", c.h, host.Must(c.h))
		}
	}
}

// P12.2: the address that is told is one of layer 6, of its own sort.
func TestAddrOfManyHosts(t *testing.T) {
	hosts(func(h host.Host) {
		a, ok := host.Addr(h)
		if !ok || a == nil || host.Host(a) != h {
			t.Errorf("Addr(%T %v) = %T %v, %v", h, h, a, a, ok)
			return
		}
		written := h.Text()
		if _, narrow := addr.Four(a); !narrow {
			written = "[" + written + "]"
		}
		if got := host.Write(h); got != written {
			t.Errorf("Write(%T %v) = %q, want %q", h, h, got, written)
		}
	})
}

// P12.3: each address, written, and read again.
func TestAddressesAreReadAgain(t *testing.T) {
	hosts(func(h host.Host) {
		if !host.Right(h) {
			t.Errorf("%T %v isn't right", h, h)
		}
		check(t, host.Write(h), h, api.OK)
	})
}

// P12.2, P12.3: a name is right, if it is read again as itself, and else it isn't; what Parse answers is right.
func TestNamesAreReadAgain(t *testing.T) {
	right := 0
	texts(func(s string) {
		n := host.Host(domain.Name(s))
		again, e := host.Parse(host.Write(n))
		if got, want := host.Right(n), e == api.OK && again == n; got != want {
			t.Errorf("Right(%q) = %v, but Parse tells %T %v, %d", s, got, again, again, e)
		}
		if host.Right(n) {
			right++
		}
		if h, e := host.Parse(s); e == api.OK {
			if !host.Right(h) {
				t.Errorf("Parse(%q) = %T %v, which isn't right", s, h, h)
			}
			check(t, host.Write(h), h, api.OK)
		}
	})
	if right < 5000 {
		t.Errorf("but %d of the names are right", right)
	}
}

// P1: each call but Must ends, and none panics; beside an error stands nil.
func TestNoneOfTheCallsPanics(t *testing.T) {
	const signs = "019:.xfF-[]%%Aa \x00\xFF"
	next := chance()
	ask := func(s string) {
		h, e := host.Parse(s)
		if (e == api.OK) == (h == nil) {
			t.Errorf("Parse(%q) = %v beside %d", s, h, e)
		}
		for _, h := range []host.Host{h, domain.Name(s)} {
			host.Write(h)
			host.Addr(h)
			host.Name(h)
			host.Kind(h)
			host.Right(h)
		}
	}
	for range 200000 {
		text := make([]byte, next(12))
		for i := range text {
			text[i] = signs[next(len(signs))]
		}
		ask(string(text))
	}
	for _, part := range []string{"[", "]", ":", "[::1]", ".", "1.", "0", "9", "%", "%31", "%2e", "a", "a.", "xn--", "\x80"} {
		for _, ahead := range []string{"", "[", "a", "0x"} {
			ask(ahead + strings.Repeat(part, 20000))
			ask(ahead + strings.Repeat(part, 20000) + "]")
		}
	}
}
