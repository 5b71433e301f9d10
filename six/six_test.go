package six_test

import (
	"fmt"
	"math/big"
	"net/netip"
	"slices"
	"strings"
	"testing"

	"mantrap/four"
	"mantrap/six"
)

// chance tells a source of numbers that look like chance, the same ones at each run.
func chance() func(below int) int {
	state := uint64(1)
	return func(below int) int {
		state = state*6364136223846793005 + 1442695040888963407
		return int((state >> 33) % uint64(below))
	}
}

// addresses hands over the pieces of addresses with noughts at each choice of
// places, the others of one to four digits.
func addresses(do func(pieces [8]uint16)) {
	edges := []uint16{1, 0xF, 0x10, 0xFF, 0x100, 0xABC, 0xFFF, 0x1000, 0x7FFF, 0x8000, 0xFFFF}
	next := chance()
	for places := range 256 {
		for range 40 {
			var pieces [8]uint16
			for i := range pieces {
				if places>>i&1 == 1 {
					pieces[i] = edges[next(len(edges))]
				}
			}
			do(pieces)
		}
	}
	for range 20000 {
		var pieces [8]uint16
		for i := range pieces {
			pieces[i] = uint16(next(0x10000))
		}
		do(pieces)
	}
}

// texts hands over rows of pieces, colons, points and addresses of four bytes,
// most of which are nearly an address.
func texts(do func(s string)) {
	parts := []string{"0", "1", "f", "F", "0000", "ffff", "aBc", "00000", "g", "", "1.2.3.4", "255.255.255.255", "01.2.3.4", "1.2.3", "\xFF"}
	next := chance()
	for range 300000 {
		row := make([]string, 1+next(10))
		for i := range row {
			row[i] = parts[next(7)]
			if next(12) == 0 {
				row[i] = parts[next(len(parts))]
			}
		}
		if next(3) == 0 {
			row[len(row)-1] = parts[10+next(4)]
		}
		if next(2) == 0 {
			row[next(len(row))] = ""
		}
		do([]string{"", "", "", ":"}[next(4)] + strings.Join(row, ":") + []string{"", "", "", ":"}[next(4)])
	}
	const signs = "::::01fG.%"
	for range 300000 {
		text := make([]byte, next(12))
		for i := range text {
			text[i] = signs[next(len(signs))]
		}
		do(string(text))
	}
}

// read tells what Parse has to, by the library's reader, which knows zones besides, and addresses of four bytes alone.
func read(s string) (six.Addr, bool) {
	a, err := netip.ParseAddr(s)
	if err != nil || !a.Is6() || a.Zone() != "" {
		return six.Addr{}, false
	}
	bytes := a.As16()
	return six.Addr{Hi: new(big.Int).SetBytes(bytes[:8]).Uint64(), Lo: new(big.Int).SetBytes(bytes[8:]).Uint64()}, true
}

// write tells what Text has to, in the words of the chapter.
func write(pieces [8]uint16) string {
	row := make([]string, 8)
	for i, piece := range pieces {
		row[i] = fmt.Sprintf("%x", piece)
	}
	for length := 8; length >= 2; length-- {
		for from := 0; from+length <= 8; from++ {
			if !slices.ContainsFunc(pieces[from:from+length], func(piece uint16) bool { return piece != 0 }) {
				return strings.Join(row[:from], ":") + "::" + strings.Join(row[from+length:], ":")
			}
		}
	}
	return strings.Join(row, ":")
}

// writings hands over the ways in which an address may be written, but that
// each has one choice of letters and noughts ahead, as chance has it.
func writings(pieces [8]uint16, next func(below int) int, do func(s string)) {
	for _, dotted := range []bool{false, true} {
		row := make([]string, 8)
		for i, piece := range pieces {
			row[i] = fmt.Sprintf([]string{"%x", "%X", "%04x", "%04X", "%02x", "%03X"}[next(6)], piece)
		}
		if dotted {
			row[6] = fmt.Sprintf("%d.%d.%d.%d", pieces[6]>>8, pieces[6]&255, pieces[7]>>8, pieces[7]&255)
			row = row[:7]
		}
		do(strings.Join(row, ":"))
		places := 8
		if dotted {
			places = 6
		}
		for from := range places {
			for to := from + 1; to <= places && pieces[to-1] == 0; to++ {
				do(strings.Join(row[:from], ":") + "::" + strings.Join(row[to:], ":"))
			}
		}
	}
}

// P5.1
func TestOf(t *testing.T) {
	for _, c := range []struct {
		pieces []uint16
		want   six.Addr
	}{
		{nil, six.Addr{}},
		{[]uint16{}, six.Addr{}},
		{[]uint16{1}, six.Addr{Hi: 0x0001_0000_0000_0000}},
		{[]uint16{0x2001, 0xDB8}, six.Addr{Hi: 0x2001_0DB8_0000_0000}},
		{[]uint16{1, 0, 0, 2}, six.Addr{Hi: 0x0001_0000_0000_0002}},
		{[]uint16{1, 2, 3, 4, 5}, six.Addr{Hi: 0x0001_0002_0003_0004, Lo: 0x0005_0000_0000_0000}},
		{[]uint16{1, 2, 3, 4, 5, 6, 7}, six.Addr{Hi: 0x0001_0002_0003_0004, Lo: 0x0005_0006_0007_0000}},
		{[]uint16{1, 2, 3, 4, 5, 6, 7, 8}, six.Addr{Hi: 0x0001_0002_0003_0004, Lo: 0x0005_0006_0007_0008}},
		{[]uint16{0, 0, 0, 0, 0, 0, 0, 1}, six.Addr{Lo: 1}},
		{[]uint16{1, 2, 3, 4, 5, 6, 7, 8, 9}, six.Addr{Hi: 0x0001_0002_0003_0004, Lo: 0x0005_0006_0007_0008}},
		{[]uint16{0, 0, 0, 0, 0, 0, 0, 0, 0xFFFF, 0xFFFF}, six.Addr{}},
		{slices.Repeat([]uint16{0xFFFF}, 1000), six.Addr{Hi: 0xFFFF_FFFF_FFFF_FFFF, Lo: 0xFFFF_FFFF_FFFF_FFFF}},
	} {
		if got := six.Of(c.pieces...); got != c.want {
			t.Errorf("Of(%x) = %x, want %x", c.pieces, got, c.want)
		}
	}
	if got := six.Of(); got != (six.Addr{}) {
		t.Errorf("Of() = %x, want noughts", got)
	}
}

// P5.1
func TestPiecesAndWide(t *testing.T) {
	addresses(func(pieces [8]uint16) {
		a := six.Of(pieces[:]...)
		if got := a.Pieces(); got != pieces {
			t.Errorf("Pieces of %x = %x", pieces, got)
		}
		var want [2]uint64
		for i, piece := range pieces {
			want[i/4] = want[i/4]*0x10000 + uint64(piece)
		}
		if hi, lo := a.Wide(); hi != want[0] || lo != want[1] || a.Hi != hi || a.Lo != lo {
			t.Errorf("Wide of %x = %x, %x", pieces, hi, lo)
		}
		for n := range 8 {
			short := pieces
			clear(short[n:])
			if got := six.Of(pieces[:n]...).Pieces(); got != short {
				t.Errorf("Pieces of Of(%x) = %x", pieces[:n], got)
			}
		}
	})
}

// P5.1: what is handed in stays, its spare room too.
func TestOfChangesNothing(t *testing.T) {
	for n := range 11 {
		list := []uint16{1, 2, 3, 4, 5, 6, 7, 8, 9, 10}
		six.Of(list[:n]...)
		if !slices.Equal(list, []uint16{1, 2, 3, 4, 5, 6, 7, 8, 9, 10}) {
			t.Errorf("Of %d pieces left %x", n, list)
		}
	}
	a := six.Of(1, 2)
	pieces := a.Pieces()
	pieces[0] = 9
	if a.Pieces()[0] != 1 {
		t.Error("an answer of Pieces is the address's own memory")
	}
}

// P5.2
func TestParse(t *testing.T) {
	for s, want := range map[string]six.Addr{
		"::": {}, "0:0:0:0:0:0:0:0": {}, "::0": {}, "0::": {}, "0000::0000": {}, "::0.0.0.0": {},
		"::1": {Lo: 1}, "1::": {Hi: 1 << 48}, "1::1": {Hi: 1 << 48, Lo: 1}, "0:0:0:0:0:0:0:1": {Lo: 1},
		"1:2:3:4:5:6:7:8":                         {Hi: 0x0001_0002_0003_0004, Lo: 0x0005_0006_0007_0008},
		"0001:0020:0300:4000:005:06:0:0":          {Hi: 0x0001_0020_0300_4000, Lo: 0x0005_0006_0000_0000},
		"abcd:EF01:aBcD:eF:a:B:c:D":               {Hi: 0xABCD_EF01_ABCD_00EF, Lo: 0x000A_000B_000C_000D},
		"ffff:FFFF:ffff:FFFF:ffff:FFFF:ffff:FFFF": {Hi: 0xFFFF_FFFF_FFFF_FFFF, Lo: 0xFFFF_FFFF_FFFF_FFFF},
		"2001:DB8::1":                             {Hi: 0x2001_0DB8_0000_0000, Lo: 1},
		// Two colons for one piece alone, at each place.
		"::2:3:4:5:6:7:8": {Hi: 0x0000_0002_0003_0004, Lo: 0x0005_0006_0007_0008},
		"1::3:4:5:6:7:8":  {Hi: 0x0001_0000_0003_0004, Lo: 0x0005_0006_0007_0008},
		"1:2:3::5:6:7:8":  {Hi: 0x0001_0002_0003_0000, Lo: 0x0005_0006_0007_0008},
		"1:2:3:4::6:7:8":  {Hi: 0x0001_0002_0003_0004, Lo: 0x0000_0006_0007_0008},
		"1:2:3:4:5:6::8":  {Hi: 0x0001_0002_0003_0004, Lo: 0x0005_0006_0000_0008},
		"1:2:3:4:5:6:7::": {Hi: 0x0001_0002_0003_0004, Lo: 0x0005_0006_0007_0000},
		"1:0:0:2::":       {Hi: 0x0001_0000_0000_0002},
		"1::2:0":          {Hi: 1 << 48, Lo: 2 << 16},
		// An address of four bytes at the end.
		"::ffff:1.2.3.4":           {Lo: 0xFFFF_0102_0304},
		"::1.2.3.4":                {Lo: 0x0102_0304},
		"1::1.2.3.4":               {Hi: 1 << 48, Lo: 0x0102_0304},
		"1:2:3:4:5:6:1.2.3.4":      {Hi: 0x0001_0002_0003_0004, Lo: 0x0005_0006_0102_0304},
		"::2:3:4:5:6:1.2.3.4":      {Hi: 0x0000_0002_0003_0004, Lo: 0x0005_0006_0102_0304},
		"1:2:3:4:5::1.2.3.4":       {Hi: 0x0001_0002_0003_0004, Lo: 0x0005_0000_0102_0304},
		"1:2::5:6:255.255.255.255": {Hi: 0x0001_0002_0000_0000, Lo: 0x0005_0006_FFFF_FFFF},
		"0:0:0:0:0:ffff:0.0.0.0":   {Lo: 0xFFFF_0000_0000},
		"64:ff9b::192.168.10.100":  {Hi: 0x0064_FF9B_0000_0000, Lo: 0xC0A8_0A64},
		"0000:0000:0000:0000:0000:0000:255.255.255.255": {Lo: 0xFFFF_FFFF},
	} {
		if got, ok := six.Parse(s); !ok || got != want {
			t.Errorf("Parse(%q) = %x, %v, want %x", s, got, ok, want)
		}
	}
}

// P5.2
func TestParseOfNoAddress(t *testing.T) {
	for _, s := range []string{
		"", ":", "0", "1", "ffff", "1:", ":1", "1:2", "a.b",
		// Fewer than eight, and more.
		"1:2:3:4:5:6:7", "1:2:3:4:5:6:7:8:9", "1:2:3:4:5:6:7:8:", ":1:2:3:4:5:6:7:8", "1:2:3:4:5:6:7:", ":2:3:4:5:6:7:8", ":1:2:3:4:5:6:7", "0:0:0:0:0:0:0:0:0",
		// Two colons for no piece.
		"1:2:3:4:5:6:7:8::", "::1:2:3:4:5:6:7:8", "1:2:3:4::5:6:7:8", "1::2:3:4:5:6:7:8", "1:2:3:4:5:6:7::8", "1:2:3:4:5::6:7:8:9", "::1:2:3:4:5:6:7:8:9", "1:2:3:4:5:6:7:8:9::",
		// Two colons twice, or three.
		":::", "::::", "::1::", "1::2::3", "1::2::", "::1::2", ":::1", "1:::", "1:::2", "1::::2", "::1:", ":1::", ":1::2", "1::2:", ":::1.2.3.4", "::1::1.2.3.4",
		// Digits.
		"12345::", "::12345", "00000::", "::00001", "1::10000", "1:2:3:4:5:6:7:00008", "g::", "::g", "::G", "::fg", "::-1", "::+1", "::0x1", "::1 ", " ::1", "::1\n", "::\x00", "::\xFF", "::\u0661", "::\uFF11", "::\uFF21", ":: ", "1: :", "1_0::", "::1_0",
		// An address of four bytes, too early, alone, or too many pieces ahead of it.
		"1.2.3.4", "1.2.3.4::", "1.2.3.4::1", "1.2.3.4:5:6:7:8:9:a", "::1.2.3.4:5", "::1.2.3.4:", "::1.2.3.4::", "1:1.2.3.4::", "1:2:3:4:5:1.2.3.4:8", "1:2:3:4:5:1.2.3.4::", "::1.2.3.4:1.2.3.4", "1.2.3.4::1.2.3.4",
		"1:2:3:4:5:1.2.3.4", "1:2:3:4:5:6:7:1.2.3.4", "1:2:3:4:5:6:7:8:1.2.3.4", "1:2:3:4:5:6::1.2.3.4", "::1:2:3:4:5:6:1.2.3.4", "::1:2:3:4:5:6:7:1.2.3.4", ":1.2.3.4", "1.2.3.4:", "1:1.2.3.4",
		// None that is strict.
		"::1.2.3", "::1.2.3.", "::1.2.3.4.", "::1.2.3.4.5", "::01.2.3.4", "::1.2.3.04", "::0x1.2.3.4", "::1.2.3.256", "::256.2.3.4", "::1.2.3.a", "::1..3.4", "::.1.2.3", "::ffff:127.1", "::ffff:0x7f.1", "::ffff:2130706433", "::1.", "::.", ".::",
		// Signs of other things.
		"[::1]", "::1]", "[::1", "fe80::1%eth0", "fe80::1%25eth0", "::1/128", "%3A%3A1", "1;2", "::1,", "http://::1/", "localhost",
	} {
		if got, ok := six.Parse(s); ok || got != (six.Addr{}) {
			t.Errorf("Parse(%q) = %x, %v, want none", s, got, ok)
		}
	}
}

// P5.2: pieces of one to five digits, at each place, small and great letters.
func TestParseOfDigits(t *testing.T) {
	const small, great = "0123456789abcdef", "0123456789ABCDEF"
	for place := range 8 {
		for length := range 6 {
			for value := range 16 {
				for _, digits := range []string{small, great} {
					row := strings.Split("0:0:0:0:0:0:0:0", ":")
					row[place] = strings.Repeat(digits[value:value+1], length)
					var pieces [8]uint16
					for range length {
						pieces[place] = pieces[place]*16 + uint16(value)
					}
					want, is := six.Of(pieces[:]...), 1 <= length && length <= 4
					if length == 0 && 0 < place && place < 7 {
						want, is = six.Addr{}, true // two colons for that piece
					}
					if !is {
						want = six.Addr{}
					}
					s := strings.Join(row, ":")
					if got, ok := six.Parse(s); got != want || ok != is {
						t.Errorf("Parse(%q) = %x, %v, want %x, %v", s, got, ok, want, is)
					}
				}
			}
		}
	}
}

// P5.2: each byte as a digit, and as a sign between two.
func TestParseOfEachByte(t *testing.T) {
	for c := range 256 {
		one := string([]byte{byte(c)})
		for _, s := range []string{one, "::" + one, one + "::", "1:2:3:4:5:6:7:" + one, "1:2:3:4:5:6:7" + one + "8", "1:2:3:4:5:6:7:8" + one, one + "1:2:3:4:5:6:7:8", "::1.2.3" + one + "4", "::1.2.3.4" + one, ":" + one + ":1"} {
			want, is := read(s)
			if got, ok := six.Parse(s); got != want || ok != is {
				t.Errorf("Parse(%q) = %x, %v, want %x, %v", s, got, ok, want, is)
			}
		}
	}
}

// P5.2: each of the ways in which an address may be written is read.
func TestParseOfWritings(t *testing.T) {
	next := chance()
	addresses(func(pieces [8]uint16) {
		want := six.Of(pieces[:]...)
		writings(pieces, next, func(s string) {
			if got, ok := six.Parse(s); !ok || got != want {
				t.Errorf("Parse(%q) = %x, %v, want %x", s, got, ok, want)
			}
		})
	})
}

// P5.2
func TestParseOfManyTexts(t *testing.T) {
	found, none := 0, 0
	texts(func(s string) {
		want, is := read(s)
		if got, ok := six.Parse(s); got != want || ok != is {
			t.Errorf("Parse(%q) = %x, %v, want %x, %v", s, got, ok, want, is)
		}
		if is {
			found++
		} else {
			none++
		}
	})
	if found < 20000 || none < 20000 {
		t.Errorf("but %d of the texts are addresses, and %d none", found, none)
	}
}

// P5.2
func TestText(t *testing.T) {
	for want, pieces := range map[string][]uint16{
		"::": {}, "::1": {0, 0, 0, 0, 0, 0, 0, 1}, "1::": {1}, "1::8": {1, 0, 0, 0, 0, 0, 0, 8},
		"1:2:3:4:5:6:7:8":                         {1, 2, 3, 4, 5, 6, 7, 8},
		"abcd:ef01:10:100:1000:f:ff:fff":          {0xABCD, 0xEF01, 0x10, 0x100, 0x1000, 0xF, 0xFF, 0xFFF},
		"ffff:ffff:ffff:ffff:ffff:ffff:ffff:ffff": slices.Repeat([]uint16{0xFFFF}, 8),
		// Rows of one piece stay.
		"0:2:3:4:5:6:7:8": {0, 2, 3, 4, 5, 6, 7, 8}, "1:2:3:0:5:6:7:8": {1, 2, 3, 0, 5, 6, 7, 8}, "1:2:3:4:5:6:7:0": {1, 2, 3, 4, 5, 6, 7, 0}, "0:2:0:4:0:6:0:8": {0, 2, 0, 4, 0, 6, 0, 8}, "1:0:3:0:5:0:7:0": {1, 0, 3, 0, 5, 0, 7, 0},
		// Two pieces, ahead, between others, behind.
		"::3:4:5:6:7:8": {0, 0, 3, 4, 5, 6, 7, 8}, "1:2:3::6:7:8": {1, 2, 3, 0, 0, 6, 7, 8}, "1:2:3:4:5:6::": {1, 2, 3, 4, 5, 6},
		// Of rows of the same length the first one.
		"::3:0:0:6:0:0": {0, 0, 3, 0, 0, 6, 0, 0}, "1::4:5:0:0:8": {1, 0, 0, 4, 5, 0, 0, 8}, "1::5:0:0:0": {1, 0, 0, 0, 5, 0, 0, 0}, "::4:5:0:0:0": {0, 0, 0, 4, 5, 0, 0, 0},
		// Of others the longest one.
		"1:0:0:2::": {1, 0, 0, 2}, "0:0:3::8": {0, 0, 3, 0, 0, 0, 0, 8}, "::4:0:0:7:0": {0, 0, 0, 4, 0, 0, 7, 0}, "0:2::5:0:0:8": {0, 2, 0, 0, 5, 0, 0, 8}, "1:0:3::7:8": {1, 0, 3, 0, 0, 0, 7, 8},
		// None is written as one of four bytes.
		"::ffff:102:304": {0, 0, 0, 0, 0, 0xFFFF, 0x102, 0x304}, "::102:304": {0, 0, 0, 0, 0, 0, 0x102, 0x304}, "2001:db8::1": {0x2001, 0xDB8, 0, 0, 0, 0, 0, 1},
	} {
		if got := six.Of(pieces...).Text(); got != want {
			t.Errorf("Text of %x = %q, want %q", pieces, got, want)
		}
	}
}

// P5.2, P5.3
func TestTextOfManyAddresses(t *testing.T) {
	addresses(func(pieces [8]uint16) {
		a := six.Of(pieces[:]...)
		text := a.Text()
		if want := write(pieces); text != want {
			t.Errorf("Text of %x = %q, want %q", pieces, text, want)
		}
		if got, ok := six.Parse(text); !ok || got != a {
			t.Errorf("Parse(%q) = %x, %v, want %x", text, got, ok, a)
		}
		if len(text) > 39 {
			t.Errorf("Text of %x has %d bytes", pieces, len(text))
		}
	})
	if got := len(six.Of(slices.Repeat([]uint16{0xABCD}, 8)...).Text()); got != 39 {
		t.Errorf("the longest Text has %d bytes, want 39", got)
	}
}

// P5.2: behind two colons what layer 4 reads strictly, and no other address, is the lowest 32 bits.
func TestParseReadsStrictAddresses(t *testing.T) {
	for _, s := range []string{"0.0.0.0", "1.2.3.4", "255.255.255.255", "127.1", "1.2.3.4.", "1.2.3.04", "0x7f.0.0.1", "2130706433", "1.2.3.256"} {
		want, is := four.Strict(s)
		if got, ok := six.Parse("::" + s); ok != is || got != (six.Addr{Lo: uint64(want)}) {
			t.Errorf("Parse(%q) = %x, %v, want %x, %v", "::"+s, got, ok, uint32(want), is)
		}
	}
}

// P1: each call ends, and none panics; beside a false stands the zero address.
func TestNoneOfTheCallsPanics(t *testing.T) {
	check := func(s string) {
		a, ok := six.Parse(s)
		if !ok && a != (six.Addr{}) {
			t.Errorf("Parse(%q) = %x beside false", s, a)
		}
		a.Text()
	}
	for a := range 256 {
		for b := range 256 {
			check(string([]byte{byte(a), byte(b)}))
			check("::" + string([]byte{byte(a), byte(b)}))
		}
	}
	for _, part := range []string{":", "::", "1", "1:", "0:", "::1", ".", "1.2.3.4", "1.2.3.4:", "\xFF"} {
		check(strings.Repeat(part, 10000))
		check("::" + strings.Repeat(part, 10000))
		check(strings.Repeat(part, 10000) + "::")
	}
}
