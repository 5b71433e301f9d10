package addr_test

import (
	"math/big"
	"slices"
	"strings"
	"testing"

	"mantrap/addr"
	"mantrap/four"
	"mantrap/six"
)

// chance tells a source of numbers that look like chance, the same ones at each run.
func chance() func(below int) int {
	state := uint64(1)
	return func(below int) int {
		state = state*6364136223846793005 + 1442695040888963407
		return int((state >> 33) % uint64(below))
	}
}

// outers hands over addresses of eight pieces most of whose pieces are those
// of the forms that embed one, or stand beside these.
func outers(do func(a six.Addr)) {
	edges := []uint16{0, 1, 2, 0x63, 0x64, 0x65, 0x1FF, 0x200, 0x201, 0x2000, 0x2001, 0x2002, 0x2003, 0x5EFD, 0x5EFE, 0x5EFF, 0x7F00, 0xFF9A, 0xFF9B, 0xFF9C, 0xFFFE, 0xFFFF}
	next := chance()
	for range 300000 {
		var pieces [8]uint16
		for i := range pieces {
			if next(3) == 0 {
				pieces[i] = edges[next(len(edges))]
			}
		}
		switch next(6) {
		case 0:
			pieces[0], pieces[1] = 0x64, 0xFF9B
		case 1:
			pieces[0] = 0x2002
		case 2:
			pieces[0], pieces[1] = 0x2001, 0
		}
		if next(3) == 0 {
			pieces[4], pieces[5] = uint16(next(2)*0x200), 0x5EFE
		}
		do(six.Of(pieces[:]...))
	}
}

// embedded tells what Inner has to, by the digits of the pieces.
func embedded(a six.Addr) []four.Addr {
	digits := ""
	for _, piece := range a.Pieces() {
		digits += string([]byte{"0123456789abcdef"[piece>>12], "0123456789abcdef"[piece>>8&15], "0123456789abcdef"[piece>>4&15], "0123456789abcdef"[piece&15]})
	}
	at := func(from int, turned bool) four.Addr {
		n, _ := new(big.Int).SetString(digits[from:from+8], 16)
		if turned {
			n.Sub(big.NewInt(0xFFFFFFFF), n)
		}
		return four.Addr(n.Uint64())
	}
	var out []four.Addr
	if strings.HasPrefix(digits, "00000000000000000000ffff") {
		out = append(out, at(24, false))
	}
	if strings.HasPrefix(digits, "000000000000000000000000") && digits[24:] != "00000000" && digits[24:] != "00000001" {
		out = append(out, at(24, false))
	}
	if strings.HasPrefix(digits, "0064ff9b0000000000000000") {
		out = append(out, at(24, false))
	}
	if strings.HasPrefix(digits, "2002") {
		out = append(out, at(4, false))
	}
	if strings.HasPrefix(digits, "20010000") {
		out = append(out, at(8, false), at(24, true))
	}
	if digits[16:24] == "00005efe" || digits[16:24] == "02005efe" {
		out = append(out, at(24, false))
	}
	return out
}

// read tells the address of eight pieces that a text is.
func read(t *testing.T, s string) six.Addr {
	t.Helper()
	a, ok := six.Parse(s)
	if !ok {
		t.Fatalf("%q is no address", s)
	}
	return a
}

// panics tells whether a call does so.
func panics(call func()) (did bool) {
	defer func() { did = recover() != nil }()
	call()
	return false
}

// P6.1
func TestParse(t *testing.T) {
	for s, want := range map[string]addr.Addr{
		"0.0.0.0": four.Addr(0), "127.0.0.1": four.Of(127, 0, 0, 1), "255.255.255.255": four.Of(255, 255, 255, 255), "1.2.3.4": four.Of(1, 2, 3, 4),
		"::": six.Addr{}, "::1": six.Addr{Lo: 1}, "::1.2.3.4": six.Addr{Lo: 0x01020304}, "::ffff:1.2.3.4": six.Addr{Lo: 0xFFFF_0102_0304}, "2001:DB8::1": six.Of(0x2001, 0xDB8, 0, 0, 0, 0, 0, 1), "1:2:3:4:5:6:7:8": six.Of(1, 2, 3, 4, 5, 6, 7, 8),
	} {
		got, ok := addr.Parse(s)
		if !ok || got == nil || got != want {
			t.Errorf("Parse(%q) = %v, %v, want %v", s, got, ok, want)
		}
	}
}

// P6.1
func TestParseOfNoAddress(t *testing.T) {
	for _, s := range []string{
		"", ".", ":", "0", "1", "127.1", "0x7f.1", "0x7f.0.0.1", "2130706433", "017700000001", "0177.0.0.1", "127.0.0.1.", "1.2.3", "1.2.3.4.5", "1.2.3.256", "01.2.3.4", "1.2.3.04",
		"1:2:3:4:5:6:7", "1:2:3:4:5:6:7:8:9", "1::2::3", ":::", "12345::", "::g", "1.2.3.4::", "::1.2.3.256", "::0x7f.1", "[::1]", "fe80::1%1", "::1/128", "1.2.3.4/8", "1.2.3.4:80", " 1.2.3.4", "::1 ", "a.b", "localhost", "\xFF", "::\xFF",
	} {
		if got, ok := addr.Parse(s); ok || got != nil {
			t.Errorf("Parse(%q) = %v, %v, want none", s, got, ok)
		}
	}
}

// P6.1
func TestFour(t *testing.T) {
	for _, a := range []four.Addr{0, 1, 0x7F000001, 0xFFFFFFFF} {
		if got, ok := addr.Four(a); !ok || got != a {
			t.Errorf("Four(%s) = %s, %v", a.Text(), got.Text(), ok)
		}
	}
	for _, a := range []addr.Addr{nil, six.Addr{}, six.Addr{Lo: 1}, read(t, "::ffff:1.2.3.4"), read(t, "2002:102:304::"), six.Of(slices.Repeat([]uint16{0xFFFF}, 8)...)} {
		if got, ok := addr.Four(a); ok || got != 0 {
			t.Errorf("Four(%v) = %s, %v, want none", a, got.Text(), ok)
		}
	}
}

// P6.1
func TestMust(t *testing.T) {
	for _, a := range []six.Addr{{}, {Lo: 1}, {Hi: 1}, {Lo: 0xFFFF_0102_0304}, {Hi: 0xFFFF_FFFF_FFFF_FFFF, Lo: 0xFFFF_FFFF_FFFF_FFFF}} {
		if got := addr.Must(a); got != a {
			t.Errorf("Must(%s) = %s", a.Text(), got.Text())
		}
	}
	for _, a := range []addr.Addr{nil, four.Addr(0), four.Addr(1), four.Of(127, 0, 0, 1), four.Of(255, 255, 255, 255)} {
		if !panics(func() { addr.Must(a) }) {
			t.Errorf("Must(%v) doesn't panic", a)
		}
	}
}

// P6.1
func TestTexts(t *testing.T) {
	var none addr.Addr
	list := []addr.Addr{four.Of(1, 2, 3, 4), nil, read(t, "::FFFF:1.2.3.4"), none, six.Addr{}, four.Addr(0), four.Of(1, 2, 3, 4), nil}
	want := []string{"1.2.3.4", "", "::ffff:102:304", "", "::", "0.0.0.0", "1.2.3.4", ""}
	for n := range len(list) + 1 {
		kept := slices.Clone(list)
		if got := addr.Texts(list[:n]...); !slices.Equal(got, want[:n]) {
			t.Errorf("Texts(%v) = %q, want %q", list[:n], got, want[:n])
		}
		for i := range list {
			if (list[i] == nil) != (kept[i] == nil) || list[i] != nil && list[i] != kept[i] {
				t.Errorf("Texts of %d addresses changed the one at %d", n, i)
			}
		}
	}
	if got := addr.Texts(); len(got) != 0 {
		t.Errorf("Texts() = %q, want none", got)
	}
	if got := addr.Texts(nil, nil); !slices.Equal(got, []string{"", ""}) {
		t.Errorf("Texts(nil, nil) = %q, want two empty ones", got)
	}
	first, second := addr.Texts(list...), addr.Texts(list...)
	first[0] = "x"
	if second[0] != "1.2.3.4" {
		t.Error("two answers of Texts share memory")
	}
}

// P6.2: each form at its bounds, and beside them.
func TestInner(t *testing.T) {
	for s, want := range map[string]string{
		// mapped
		"::ffff:7f00:1": "127.0.0.1", "::ffff:0:0": "0.0.0.0", "::ffff:0:1": "0.0.0.1", "::ffff:255.255.255.255": "255.255.255.255",
		"::fffe:7f00:1": "", "::1:7f00:1": "", "::fffe:ffff:ffff": "", "::1:0:0:0": "", "::1:ffff:7f00:1": "", "1::ffff:7f00:1": "", "::8000:0:ffff:7f00:1": "", "0:0:0:1:0:ffff:7f00:1": "", "::ffff:0:7f00:1": "", "::ffff:0:0:0": "",
		// compatible
		"::": "", "::1": "", "::2": "0.0.0.2", "::3": "0.0.0.3", "::1:0": "0.1.0.0", "::1:1": "0.1.0.1", "::7f00:1": "127.0.0.1", "::ffff:ffff": "255.255.255.255", "::1.2.3.4": "1.2.3.4",
		"::1:0:0": "", "::1:7f00:2": "", "0:0:0:1::2": "", "1::2": "", "8000::7f00:1": "", "::8000:0:7f00:1": "",
		// translated
		"64:ff9b::7f00:1": "127.0.0.1", "64:ff9b::": "0.0.0.0", "64:ff9b::1": "0.0.0.1", "64:ff9b::255.255.255.255": "255.255.255.255",
		"64:ff9b::1:0:0": "", "64:ff9a::7f00:1": "", "64:ff9c::7f00:1": "", "63:ff9b::7f00:1": "", "65:ff9b::7f00:1": "", "64:ff9b:1::7f00:1": "", "64:ff9b:0:1::7f00:1": "", "64:ff9b:0:0:1:0:7f00:1": "", "64:ff9b::ffff:7f00:1": "", "64:ff9a:ffff:ffff:ffff:ffff:ffff:ffff": "",
		// 6to4
		"2002:7f00:1::": "127.0.0.1", "2002::": "0.0.0.0", "2002:0:1::": "0.0.0.1", "2002:ffff:ffff:ffff:ffff:ffff:ffff:ffff": "255.255.255.255", "2002:102:304:506:708:90a:b0c:d0e": "1.2.3.4",
		"2001:ffff:ffff:ffff:ffff:ffff:ffff:ffff": "", "2003::": "", "2003:7f00:1::": "", "1002:7f00:1::": "", "2012:7f00:1::": "",
		// Teredo
		"2001::": "0.0.0.0 255.255.255.255", "2001:0:102:304::": "1.2.3.4 255.255.255.255", "2001:0:102:304:506:708:80ff:fffe": "1.2.3.4 127.0.0.1", "2001:0:ffff:ffff:ffff:ffff:ffff:ffff": "255.255.255.255 0.0.0.0", "2001:0:4136:e378:8000:63bf:3fff:fdd2": "65.54.227.120 192.0.2.45", "2001::1": "0.0.0.0 255.255.255.254",
		"2000:ffff:ffff:ffff:ffff:ffff:ffff:ffff": "", "2001:1::": "", "2001:1:102:304::": "", "2001:8000::": "", "2001:db8::1": "", "2000:0:102:304::": "",
		// ISATAP
		"::5efe:7f00:1": "127.0.0.1", "::200:5efe:7f00:1": "127.0.0.1", "fe80::5efe:a00:1": "10.0.0.1", "fe80::200:5efe:a00:1": "10.0.0.1", "2003:1:2:3:0:5efe:102:304": "1.2.3.4", "ffff:ffff:ffff:ffff:200:5efe:ffff:ffff": "255.255.255.255", "1::5efe:0:0": "0.0.0.0", "1::5efe:0:1": "0.0.0.1",
		"::5efd:7f00:1": "", "::5eff:7f00:1": "", "fe80::100:5efe:a00:1": "", "fe80::1:5efe:a00:1": "", "fe80::201:5efe:a00:1": "", "fe80::300:5efe:a00:1": "", "fe80::8200:5efe:a00:1": "", "fe80::200:5efd:a00:1": "", "fe80::200:5eff:a00:1": "", "fe80::5efe:0:a00:1": "", "fe80::5efe:a00": "", "fe80:0:0:5efe::a00:1": "",
		// several forms
		"2002:102:304::5efe:506:708": "1.2.3.4 5.6.7.8", "2002:102:304::200:5efe:102:304": "1.2.3.4 1.2.3.4", "2001:0:102:304:0:5efe:506:708": "1.2.3.4 250.249.248.247 5.6.7.8", "2001:0:102:304:200:5efe:506:708": "1.2.3.4 250.249.248.247 5.6.7.8", "64:ff9b::5efe:102:304": "1.2.3.4", "64:ff9b::200:5efe:102:304": "1.2.3.4",
		// none
		"2606:4700::1111": "", "fe80::1": "", "ff02::1": "", "fc00::7f00:1": "", "ffff:ffff:ffff:ffff:ffff:ffff:ffff:ffff": "", "8000::": "", "ffff::7f00:1": "",
	} {
		var texts []string
		for _, inner := range addr.Inner(read(t, s)) {
			texts = append(texts, inner.Text())
		}
		if got := strings.Join(texts, " "); got != want {
			t.Errorf("Inner(%s) = %q, want %q", s, got, want)
		}
	}
}

// P6.2
func TestInnerOfNone(t *testing.T) {
	for _, a := range []addr.Addr{nil, four.Addr(0), four.Addr(2), four.Of(127, 0, 0, 1), four.Of(255, 255, 255, 255)} {
		if got := addr.Inner(a); len(got) != 0 {
			t.Errorf("Inner(%v) = %v, want none", a, got)
		}
	}
}

// P6.2
func TestInnerOfManyAddresses(t *testing.T) {
	several := [4]int{}
	outers(func(a six.Addr) {
		want := embedded(a)
		if got := addr.Inner(a); !slices.Equal(got, want) {
			t.Errorf("Inner(%s) = %v, want %v", a.Text(), got, want)
		}
		several[len(want)]++
	})
	for n, count := range several {
		if count < 1000 {
			t.Errorf("but %d of the addresses embed %d", count, n)
		}
	}
}

// P6.2: each form, with each of its bits turned over.
func TestInnerWithOneBitTurned(t *testing.T) {
	for _, s := range []string{"::", "::ffff:7f00:1", "::7f00:1", "64:ff9b::7f00:1", "2002:7f00:1::", "2001:0:102:304::506:708", "fe80::5efe:102:304", "fe80::200:5efe:102:304", "2002:102:304:0:0:5efe:506:708"} {
		whole := read(t, s)
		for bit := range 64 {
			for _, a := range []six.Addr{{Hi: whole.Hi ^ 1<<bit, Lo: whole.Lo}, {Hi: whole.Hi, Lo: whole.Lo ^ 1<<bit}} {
				if got, want := addr.Inner(a), embedded(a); !slices.Equal(got, want) {
					t.Errorf("Inner(%s) = %v, want %v", a.Text(), got, want)
				}
			}
		}
	}
}

// P6.2: an answer is new memory.
func TestInnerSharesNothing(t *testing.T) {
	a := read(t, "2001:0:102:304:0:5efe:506:708")
	first, second := addr.Inner(a), addr.Inner(a)
	clear(first)
	if !slices.Equal(second, embedded(a)) {
		t.Error("two answers of Inner share memory")
	}
}

// P6.2: each of a list that is in order against each other one.
func TestCompare(t *testing.T) {
	order := []addr.Addr{
		nil,
		six.Addr{}, six.Addr{Lo: 1}, six.Addr{Lo: 0x7F000001}, six.Addr{Lo: 0xFFFE_FFFF_FFFF},
		four.Addr(0), six.Addr{Lo: 0xFFFF_0000_0000},
		four.Addr(1), six.Addr{Lo: 0xFFFF_0000_0001},
		four.Addr(0x7FFFFFFF), four.Addr(0x80000000), six.Addr{Lo: 0xFFFF_8000_0000},
		four.Addr(0xFFFFFFFF), six.Addr{Lo: 0xFFFF_FFFF_FFFF},
		six.Addr{Lo: 0x1_0000_0000_0000}, six.Addr{Lo: 0x7FFF_FFFF_FFFF_FFFF}, six.Addr{Lo: 0x8000_0000_0000_0000}, six.Addr{Lo: 0xFFFF_FFFF_FFFF_FFFF},
		six.Addr{Hi: 1}, six.Addr{Hi: 1, Lo: 0xFFFF_0000_0001}, six.Addr{Hi: 1, Lo: 0xFFFF_FFFF_FFFF_FFFF}, six.Addr{Hi: 2}, six.Addr{Hi: 0x7FFF_FFFF_FFFF_FFFF, Lo: 5}, six.Addr{Hi: 0x8000_0000_0000_0000, Lo: 4},
		six.Addr{Hi: 0xFFFF_FFFF_FFFF_FFFF}, six.Addr{Hi: 0xFFFF_FFFF_FFFF_FFFF, Lo: 0xFFFF_FFFF_FFFF_FFFF},
	}
	for i, a := range order {
		for j, b := range order {
			want := 0
			if i < j {
				want = -1
			}
			if i > j {
				want = 1
			}
			if got := addr.Compare(a, b); got != want {
				t.Errorf("Compare(%v, %v) = %d, want %d", a, b, got, want)
			}
		}
	}
}

// P6.2: as numbers of any size.
func TestCompareOfManyAddresses(t *testing.T) {
	wide := func(a addr.Addr) *big.Int {
		hi, lo := a.Wide()
		n := new(big.Int).Lsh(new(big.Int).SetUint64(hi), 64)
		return n.Add(n, new(big.Int).SetUint64(lo))
	}
	var before addr.Addr = four.Addr(0)
	outers(func(a six.Addr) {
		now := addr.Addr(a)
		if a.Hi == 0 && a.Lo%2 == 1 {
			now = four.Addr(a.Lo)
		}
		want := wide(now).Cmp(wide(before))
		if want == 0 {
			_, narrow := now.(four.Addr)
			_, narrowBefore := before.(four.Addr)
			switch {
			case narrow && !narrowBefore:
				want = -1
			case !narrow && narrowBefore:
				want = 1
			}
		}
		if got := addr.Compare(now, before); got != want {
			t.Errorf("Compare(%v, %v) = %d, want %d", now, before, got, want)
		}
		if got := addr.Compare(before, now); got != -want {
			t.Errorf("Compare(%v, %v) = %d, want %d", before, now, got, -want)
		}
		before = now
	})
}

// P6.3: what is read of a Text is the address, of its own sort.
func TestTextIsRead(t *testing.T) {
	check := func(a addr.Addr) {
		if got, ok := addr.Parse(a.Text()); !ok || got == nil || got != a {
			t.Errorf("Parse(%q) = %v, %v, want %v", a.Text(), got, ok, a)
		}
	}
	outers(func(a six.Addr) {
		check(a)
		check(four.Addr(a.Lo))
		check(four.Addr(a.Hi))
	})
	for _, a := range []addr.Addr{four.Addr(0), four.Addr(0xFFFFFFFF), six.Addr{}, six.Addr{Lo: 0xFFFF_7F00_0001}, six.Addr{Hi: 0xFFFF_FFFF_FFFF_FFFF, Lo: 0xFFFF_FFFF_FFFF_FFFF}} {
		check(a)
	}
}

// P1: each call but Must ends, and none panics; beside a false stands nothing.
func TestNoneOfTheCallsPanics(t *testing.T) {
	const signs = "019:.xfF-\x00\xFF"
	next := chance()
	list := []addr.Addr{nil}
	for range 100000 {
		text := make([]byte, next(12))
		for i := range text {
			text[i] = signs[next(len(signs))]
		}
		a, ok := addr.Parse(string(text))
		if ok == (a == nil) {
			t.Errorf("Parse(%q) = %v beside %v", text, a, ok)
		}
		addr.Four(a)
		addr.Inner(a)
		addr.Compare(a, list[next(len(list))])
		addr.Compare(nil, a)
		list = append(list, a)
	}
	if got := addr.Texts(list...); len(got) != len(list) {
		t.Errorf("Texts of %d addresses are %d", len(list), len(got))
	}
	for _, part := range []string{":", "::", ".", "1:", "1.", "1.2.3.4:"} {
		if a, ok := addr.Parse(strings.Repeat(part, 10000)); ok || a != nil {
			t.Errorf("a text of many %q is an address", part)
		}
	}
}
