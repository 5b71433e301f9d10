package special_test

import (
	"math"
	"slices"
	"strings"
	"testing"

	"mantrap/addr"
	"mantrap/four"
	"mantrap/prefix"
	"mantrap/six"
	"mantrap/special"
	"mantrap/trie"
)

// spans are the table, and of each range the first and the last address, worked out by hand.
var spans = []struct{ prefix, name, first, last string }{
	{"0.0.0.0/8", "this", "0.0.0.0", "0.255.255.255"},
	{"10.0.0.0/8", "private", "10.0.0.0", "10.255.255.255"},
	{"100.64.0.0/10", "shared", "100.64.0.0", "100.127.255.255"},
	{"127.0.0.0/8", "loopback", "127.0.0.0", "127.255.255.255"},
	{"169.254.0.0/16", "link", "169.254.0.0", "169.254.255.255"},
	{"172.16.0.0/12", "private", "172.16.0.0", "172.31.255.255"},
	{"192.0.0.0/24", "protocol", "192.0.0.0", "192.0.0.255"},
	{"192.0.2.0/24", "example", "192.0.2.0", "192.0.2.255"},
	{"192.88.99.0/24", "relay", "192.88.99.0", "192.88.99.255"},
	{"192.168.0.0/16", "private", "192.168.0.0", "192.168.255.255"},
	{"198.18.0.0/15", "measure", "198.18.0.0", "198.19.255.255"},
	{"198.51.100.0/24", "example", "198.51.100.0", "198.51.100.255"},
	{"203.0.113.0/24", "example", "203.0.113.0", "203.0.113.255"},
	{"224.0.0.0/4", "multicast", "224.0.0.0", "239.255.255.255"},
	{"240.0.0.0/4", "reserved", "240.0.0.0", "255.255.255.255"},
	{"::/128", "none", "::", "::"},
	{"::1/128", "loopback", "::1", "::1"},
	{"64:ff9b:1::/48", "private", "64:ff9b:1::", "64:ff9b:1:ffff:ffff:ffff:ffff:ffff"},
	{"100::/64", "discard", "100::", "100::ffff:ffff:ffff:ffff"},
	{"2001::/23", "protocol", "2001::", "2001:1ff:ffff:ffff:ffff:ffff:ffff:ffff"},
	{"2001:db8::/32", "example", "2001:db8::", "2001:db8:ffff:ffff:ffff:ffff:ffff:ffff"},
	{"3fff::/20", "example", "3fff::", "3fff:fff:ffff:ffff:ffff:ffff:ffff:ffff"},
	{"5f00::/16", "segment", "5f00::", "5f00:ffff:ffff:ffff:ffff:ffff:ffff:ffff"},
	{"fc00::/7", "private", "fc00::", "fdff:ffff:ffff:ffff:ffff:ffff:ffff:ffff"},
	{"fe80::/10", "link", "fe80::", "febf:ffff:ffff:ffff:ffff:ffff:ffff:ffff"},
	{"fec0::/10", "site", "fec0::", "feff:ffff:ffff:ffff:ffff:ffff:ffff:ffff"},
	{"ff00::/8", "multicast", "ff00::", "ffff:ffff:ffff:ffff:ffff:ffff:ffff:ffff"},
}

// read tells the address that a text is.
func read(t *testing.T, s string) addr.Addr {
	t.Helper()
	a, ok := addr.Parse(s)
	if !ok {
		t.Fatalf("%q is no address", s)
	}
	return a
}

// wide tells an address as one of eight pieces, of the same number.
func wide(a addr.Addr) six.Addr {
	hi, lo := a.Wide()
	return six.Addr{Hi: hi, Lo: lo}
}

func below(a six.Addr) six.Addr {
	if a.Lo == 0 {
		a.Hi--
	}
	a.Lo--
	return a
}

func above(a six.Addr) six.Addr {
	a.Lo++
	if a.Lo == 0 {
		a.Hi++
	}
	return a
}

// within tells whether the number of an address is from that of first on up to that of last.
func within(a, first, last addr.Addr) bool {
	return addr.Compare(wide(a), wide(first)) >= 0 && addr.Compare(wide(a), wide(last)) <= 0
}

// nameOf tells what Name has to tell, by the spans' ends alone.
func nameOf(t *testing.T, a addr.Addr) (string, bool) {
	t.Helper()
	for _, s := range spans {
		if within(a, read(t, s.first), read(t, s.last)) {
			return s.name, true
		}
	}
	return "", false
}

// asked are the first and the last address of each range and those beside them, in both sorts, and many within, and beyond.
func asked(t *testing.T) []addr.Addr {
	t.Helper()
	var list []addr.Addr
	for _, s := range spans {
		first, last := wide(read(t, s.first)), wide(read(t, s.last))
		middle := six.Addr{Hi: first.Hi | (last.Hi^first.Hi)>>1, Lo: first.Lo | (last.Lo^first.Lo)>>1}
		list = append(list, below(first), first, above(first), middle, below(last), last, above(last))
	}
	for _, s := range strings.Fields("8.8.8.8 1.1.1.1 100.63.0.0 172.32.0.0 192.0.1.0 192.0.3.0 223.255.255.255 2606:4700::1111 64:ff9b::7f00:1 2002:7f00:1:: ::2 ::7f00:1 ::fffe:7f00:1 2001:200:: fe00:: 4000:: fec0:1::2") {
		list = append(list, read(t, s))
	}
	for _, a := range slices.Clone(list) {
		if hi, lo := a.Wide(); hi == 0 && lo>>32 == 0xFFFF {
			list = append(list, four.Addr(lo))
		}
	}
	return list
}

// P9.1
func TestRowsAreTheTable(t *testing.T) {
	rows := special.Rows()
	if len(rows) != len(spans) {
		t.Fatalf("%d rows, want %d", len(rows), len(spans))
	}
	for i, s := range spans {
		if rows[i].Name != s.name || rows[i].Prefix.Text() != s.prefix || !rows[i].Prefix.Right() {
			t.Errorf("row %d is %s %s, want %s %s", i, rows[i].Prefix.Text(), rows[i].Name, s.prefix, s.name)
		}
		if !rows[i].Prefix.Has(read(t, s.first)) || !rows[i].Prefix.Has(read(t, s.last)) {
			t.Errorf("row %d hasn't %s, or hasn't %s", i, s.first, s.last)
		}
	}
}

// P9.1: no two have an address together, so that the first one is the only one.
func TestNoTwoRowsHaveOneAddress(t *testing.T) {
	rows := special.Rows()
	for i, r := range rows {
		for k, q := range rows {
			if i != k && r.Prefix.Covers(q.Prefix) {
				t.Errorf("%s covers %s", r.Prefix.Text(), q.Prefix.Text())
			}
		}
	}
}

// P9.1: what is handed out is nobody else's.
func TestRowsAreNewMemory(t *testing.T) {
	rows := special.Rows()
	for i := range rows {
		rows[i] = special.Row{Name: "x"}
	}
	_ = append(rows[:0], special.Row{Name: "y"})
	if again := special.Rows(); again[0].Name != "this" || again[26].Name != "multicast" {
		t.Errorf("Rows tells %v behind a change of what it told", again)
	}
	if name, ok := special.Name(four.Of(127, 0, 0, 1)); name != "loopback" || !ok {
		t.Errorf("Name = %q, %v behind a change of what Rows told", name, ok)
	}
}

// P9.1
func TestNameAtTheEndsOfRanges(t *testing.T) {
	for _, s := range spans {
		for _, end := range []string{s.first, s.last} {
			if name, ok := special.Name(read(t, end)); name != s.name || !ok {
				t.Errorf("Name(%s) = %q, %v, want %q", end, name, ok, s.name)
			}
		}
	}
	for _, a := range asked(t) {
		name, ok := special.Name(a)
		if wanted, is := nameOf(t, a); name != wanted || ok != is {
			t.Errorf("Name(%s) = %q, %v, want %q, %v", a.Text(), name, ok, wanted, is)
		}
	}
}

// P9.1: by name those beside the ranges, as the document's table has them.
func TestNameBesideRanges(t *testing.T) {
	for text, wanted := range map[string]string{
		"1.0.0.0": "", "9.255.255.255": "", "11.0.0.0": "", "100.63.255.255": "", "100.128.0.0": "",
		"126.255.255.255": "", "128.0.0.0": "", "169.253.255.255": "", "169.255.0.0": "", "172.15.255.255": "",
		"172.32.0.0": "", "191.255.255.255": "", "192.0.1.0": "", "192.0.1.255": "", "192.0.3.0": "",
		"192.88.98.255": "", "192.88.100.0": "", "192.167.255.255": "", "192.169.0.0": "", "198.17.255.255": "",
		"198.20.0.0": "", "198.51.99.255": "", "198.51.101.0": "", "203.0.112.255": "", "203.0.114.0": "",
		"223.255.255.255": "", "239.255.255.255": "multicast", "240.0.0.0": "reserved", "255.255.255.255": "reserved",
		"::": "none", "::1": "loopback", "::2": "", "::fffe:ffff:ffff": "", "::1:0:0:0": "", "::ffff:10.0.0.1": "private",
		"64:ff9b::": "", "64:ff9b:0:ffff:ffff:ffff:ffff:ffff": "", "64:ff9b:2::": "",
		"ff:ffff:ffff:ffff:ffff:ffff:ffff:ffff": "", "100:0:0:1::": "",
		"2000:ffff:ffff:ffff:ffff:ffff:ffff:ffff": "", "2001:200::": "", "2001:db7:ffff:ffff:ffff:ffff:ffff:ffff": "", "2001:db9::": "",
		"3ffe:ffff:ffff:ffff:ffff:ffff:ffff:ffff": "", "3fff:1000::": "",
		"5eff:ffff:ffff:ffff:ffff:ffff:ffff:ffff": "", "5f01::": "",
		"fbff:ffff:ffff:ffff:ffff:ffff:ffff:ffff": "", "fe00::": "", "fe7f:ffff:ffff:ffff:ffff:ffff:ffff:ffff": "",
		"febf::": "link", "fec0::": "site", "feff::": "site", "ff00::": "multicast",
	} {
		name, ok := special.Name(read(t, text))
		if name != wanted || ok != (wanted != "") {
			t.Errorf("Name(%s) = %q, %v, want %q", text, name, ok, wanted)
		}
	}
}

// P9.1
func TestNameOfNil(t *testing.T) {
	if name, ok := special.Name(nil); name != "" || ok {
		t.Errorf("Name(nil) = %q, %v", name, ok)
	}
}

// P9.1
func TestNamed(t *testing.T) {
	for _, c := range []struct{ names, wanted string }{
		{"", ""},
		{"loopback", "127.0.0.0/8 ::1/128"},
		{"private", "10.0.0.0/8 172.16.0.0/12 192.168.0.0/16 64:ff9b:1::/48 fc00::/7"},
		{"example", "192.0.2.0/24 198.51.100.0/24 203.0.113.0/24 2001:db8::/32 3fff::/20"},
		{"none", "::/128"},
		{"protocol,link", "192.0.0.0/24 2001::/23 169.254.0.0/16 fe80::/10"},
		{"site,this", "fec0::/10 0.0.0.0/8"},
		{"multicast,multicast", "224.0.0.0/4 ff00::/8 224.0.0.0/4 ff00::/8"},
		{"link,site,link", "169.254.0.0/16 fe80::/10 fec0::/10 169.254.0.0/16 fe80::/10"},
		{"nobody", ""},
		{"nobody,relay,,discard,Relay, relay", "192.88.99.0/24 100::/64"},
		{"shared,measure,reserved,segment", "100.64.0.0/10 198.18.0.0/15 240.0.0.0/4 5f00::/16"},
		{"loop", ""},
		{"loopbacks", ""},
		{"10.0.0.0/8", ""},
	} {
		var texts []string
		for _, p := range special.Named(strings.Split(c.names, ",")...) {
			texts = append(texts, p.Text())
		}
		if got := strings.Join(texts, " "); got != c.wanted {
			t.Errorf("Named(%s) = %s, want %s", c.names, got, c.wanted)
		}
	}
	if list := special.Named(); len(list) != 0 {
		t.Errorf("Named() = %v", list)
	}
}

// P9.1: neither the names nor what was told ahead is touched.
func TestNamedIsNewMemory(t *testing.T) {
	names := append(make([]string, 0, 4), "private", "none")
	names = append(names, "spare")[:2]
	first := special.Named(names...)
	for i := range first {
		first[i] = prefix.Prefix{Len: -1}
	}
	if again := special.Named(names...); len(again) != 6 || again[0].Text() != "10.0.0.0/8" {
		t.Errorf("Named = %v behind a change of what it told", again)
	}
	if !slices.Equal(names[:3], []string{"private", "none", "spare"}) {
		t.Errorf("the names are %v", names[:3])
	}
}

// P9.2
func TestLay(t *testing.T) {
	for _, verdict := range []int{0, 1, -1, 5, math.MaxInt, math.MinInt} {
		x := trie.New()
		if n := special.Lay(x, verdict); n != 27 || x.Len() != 27 {
			t.Errorf("Lay = %d, and Len = %d", n, x.Len())
		}
		for _, r := range special.Rows() {
			if got, ok := x.Get(r.Prefix); got != verdict || !ok {
				t.Errorf("Get(%s) = %d, %v, want %d", r.Prefix.Text(), got, ok, verdict)
			}
		}
	}
}

// P9.2: an elder verdict gives way, what else was there stays; laid twice they are there once.
func TestLayIntoATrieThatHasSome(t *testing.T) {
	x := trie.New()
	ten, _ := prefix.Parse("10.0.0.0/8")
	more, _ := prefix.Parse("10.1.0.0/16")
	all, _ := prefix.Parse("::/0")
	for _, p := range []prefix.Prefix{ten, more, all} {
		x.Put(p, 7)
	}
	for verdict := range 3 {
		if n := special.Lay(x, verdict); n != 27 || x.Len() != 29 {
			t.Errorf("Lay = %d, and Len = %d", n, x.Len())
		}
		if got, _ := x.Get(ten); got != verdict {
			t.Errorf("10.0.0.0/8 is %d, want %d", got, verdict)
		}
		for _, p := range []prefix.Prefix{more, all} {
			if got, ok := x.Get(p); got != 7 || !ok {
				t.Errorf("%s is %d, %v, want 7", p.Text(), got, ok)
			}
		}
	}
}

// P9.2
func TestLayIntoNil(t *testing.T) {
	if n := special.Lay(nil, 1); n != 0 {
		t.Errorf("Lay(nil, 1) = %d", n)
	}
}

// P9.3
func TestWhatHasANameIsFound(t *testing.T) {
	x := trie.New()
	special.Lay(x, 3)
	for _, a := range asked(t) {
		name, named := special.Name(a)
		p, verdict, found := x.Find(a)
		if named != found {
			t.Errorf("%s: Name %v, Find %v", a.Text(), named, found)
		}
		if found && (verdict != 3 || !p.Has(a) || !slices.Contains(special.Named(name), p)) {
			t.Errorf("%s is %s, and found in %s, %d", a.Text(), name, p.Text(), verdict)
		}
	}
	if _, _, ok := x.Find(nil); ok {
		t.Error("nil is found")
	}
}

// P1
func TestNoneOfTheCallsPanics(t *testing.T) {
	var none *trie.Trie
	special.Rows()
	special.Lay(none, math.MinInt)
	special.Name(nil)
	special.Name(four.Addr(0))
	special.Name(six.Addr{Hi: math.MaxUint64, Lo: math.MaxUint64})
	special.Named("", "\xFF", strings.Repeat("private", 1000))
}
