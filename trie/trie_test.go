package trie_test

import (
	"cmp"
	"math"
	"slices"
	"strings"
	"testing"

	"mantrap/addr"
	"mantrap/four"
	"mantrap/prefix"
	"mantrap/six"
	"mantrap/trie"
)

const ones = math.MaxUint64

// model is what a trie has to be: its prefixes with their verdicts, all of them gone through at each question.
type model map[prefix.Prefix]int

func (m model) all() []prefix.Prefix {
	list := make([]prefix.Prefix, 0, len(m))
	for p := range m {
		list = append(list, p)
	}
	slices.SortFunc(list, func(p, q prefix.Prefix) int {
		return cmp.Or(cmp.Compare(p.Hi, q.Hi), cmp.Compare(p.Lo, q.Lo), cmp.Compare(p.Len, q.Len))
	})
	return list
}

func (m model) find(a addr.Addr) (prefix.Prefix, int, bool) {
	longest, ok := prefix.Prefix{Len: -1}, false
	for p := range m {
		if p.Has(a) && p.Len > longest.Len {
			longest, ok = p, true
		}
	}
	if !ok {
		return prefix.Prefix{}, 0, false
	}
	return longest, m[longest], true
}

// clone tells a model of its own.
func (m model) clone() model {
	twin := model{}
	for p, verdict := range m {
		twin[p] = verdict
	}
	return twin
}

// chance tells a source of numbers that look like chance, the same ones at each run.
func chance() func(below int) int {
	state := uint64(1)
	return func(below int) int {
		state = state*6364136223846793005 + 1442695040888963407
		return int((state >> 33) % uint64(below))
	}
}

// pick tells a source of addresses most of which share many bits with others, and differ where halves and sorts end.
func pick(next func(below int) int) func() six.Addr {
	edges := []int{0, 1, 62, 63, 64, 65, 79, 80, 94, 95, 96, 97, 104, 126, 127}
	return func() six.Addr {
		a := []six.Addr{{}, {Lo: 0xFFFF_0A00_0000}, {Hi: ones, Lo: ones}}[next(3)]
		for range next(4) {
			if bit := edges[next(len(edges))]; bit < 64 {
				a.Hi ^= 1 << (63 - bit)
			} else {
				a.Lo ^= 1 << (127 - bit)
			}
		}
		return a
	}
}

// lengths are those at which halves, sorts and the number itself end, and those beside them.
var lengths = []int{0, 1, 2, 62, 63, 64, 65, 95, 96, 97, 104, 126, 127, 128}

// noPrefixes may not be.
func noPrefixes() []prefix.Prefix {
	return []prefix.Prefix{{Len: -1}, {Len: 129}, {Len: math.MaxInt}, {Len: math.MinInt}, {Lo: 1}, {Hi: 1}, {Hi: 1 << 63}, {Hi: 1, Len: 63}, {Lo: 1 << 63, Len: 64}, {Lo: 1, Len: 127}, {Hi: ones, Lo: ones, Len: 127}, {Hi: ones, Lo: ones, Len: 129}, {Lo: 0xFFFF_0A01_0203, Len: 104}}
}

// read tells the prefix that a text is.
func read(t *testing.T, s string) prefix.Prefix {
	t.Helper()
	p, ok := prefix.Parse(s)
	if !ok {
		t.Fatalf("%q is no prefix", s)
	}
	return p
}

// readAll tells the prefixes of a text, with blanks between.
func readAll(t *testing.T, s string) []prefix.Prefix {
	t.Helper()
	var list []prefix.Prefix
	for _, word := range strings.Fields(s) {
		list = append(list, read(t, word))
	}
	return list
}

// readAddr tells the address that a text is.
func readAddr(t *testing.T, s string) addr.Addr {
	t.Helper()
	a, ok := addr.Parse(s)
	if !ok {
		t.Fatalf("%q is no address", s)
	}
	return a
}

// of tells a trie of prefixes, whose verdicts are 1, 2, ..
func of(t *testing.T, s string) *trie.Trie {
	t.Helper()
	x := trie.New()
	for i, p := range readAll(t, s) {
		if !x.Put(p, i+1) {
			t.Fatalf("%s isn't put", p.Text())
		}
	}
	return x
}

// found tells what Find answers, as a text.
func found(t *testing.T, x *trie.Trie, s string) string {
	t.Helper()
	p, verdict, ok := x.Find(readAddr(t, s))
	if !ok {
		if p != (prefix.Prefix{}) || verdict != 0 {
			t.Errorf("Find(%s) = %+v, %d beside false", s, p, verdict)
		}
		return "none"
	}
	if got, is := x.Get(p); !is || got != verdict {
		t.Errorf("Find(%s) = %s, %d, but Get = %d, %v", s, p.Text(), verdict, got, is)
	}
	return p.Text()
}

// same fails, where a trie isn't what the model is, asked of these addresses and prefixes.
func same(t *testing.T, x *trie.Trie, m model, asked []addr.Addr, prefixes []prefix.Prefix) {
	t.Helper()
	if x.Len() != len(m) {
		t.Errorf("Len = %d, want %d", x.Len(), len(m))
	}
	if got, want := x.All(), m.all(); !slices.Equal(got, want) {
		t.Errorf("All = %+v, want %+v", got, want)
	}
	for _, p := range prefixes {
		want, is := m[p]
		if got, ok := x.Get(p); ok != is || got != want {
			t.Errorf("Get(%+v) = %d, %v, want %d, %v", p, got, ok, want, is)
		}
	}
	for _, a := range asked {
		p, verdict, ok := x.Find(a)
		wantP, want, is := m.find(a)
		if ok != is || p != wantP || verdict != want {
			t.Errorf("Find(%v) = %+v, %d, %v, want %+v, %d, %v", a, p, verdict, ok, wantP, want, is)
		}
	}
}

// P8.1, P8.2
func TestNew(t *testing.T) {
	x := trie.New()
	if x == nil {
		t.Fatal("New is nil")
	}
	same(t, x, model{}, []addr.Addr{nil, four.Addr(0), six.Addr{}, six.Addr{Hi: ones, Lo: ones}}, append(noPrefixes(), prefix.Prefix{}, prefix.Prefix{Len: 128}))
	if x.Drop(prefix.Prefix{}) || x.Len() != 0 {
		t.Error("of none one is dropped")
	}
	y := trie.New()
	if !y.Put(prefix.Prefix{}, 1) || x.Len() != 0 {
		t.Error("two new ones share a prefix")
	}
}

// P8.1, P8.2: one prefix, of each length.
func TestOne(t *testing.T) {
	for n := range 129 {
		for _, a := range []addr.Addr{six.Addr{}, six.Addr{Hi: ones, Lo: ones}, four.Of(10, 1, 2, 3), six.Of(0x2001, 0xDB8, 1, 2, 3, 4, 5, 6)} {
			p, _ := prefix.Of(a, n)
			x, m := trie.New(), model{p: 7}
			if !x.Put(p, 7) {
				t.Errorf("Put(%s) is false", p.Text())
			}
			var others []prefix.Prefix
			asked := []addr.Addr{nil, a, six.Addr{}, six.Addr{Hi: ones, Lo: ones}, four.Of(10, 1, 2, 3)}
			for i := range 129 {
				q, _ := prefix.Of(a, i)
				others = append(others, q)
				asked = append(asked, six.Addr{Hi: q.Hi, Lo: q.Lo})
			}
			same(t, x, m, asked, others)
			for _, q := range others {
				if q != p && x.Drop(q) {
					t.Errorf("of %s alone %s is dropped", p.Text(), q.Text())
				}
			}
			same(t, x, m, asked, others)
			if !x.Drop(p) || x.Drop(p) {
				t.Errorf("%s isn't dropped once", p.Text())
			}
			same(t, x, model{}, asked, others)
		}
	}
}

// P8.1: each verdict is told as it was put, in the place of an elder one.
func TestPutTwice(t *testing.T) {
	x := of(t, "::/0 10.0.0.0/8 10.1.0.0/16")
	p, a := read(t, "10.0.0.0/8"), readAddr(t, "10.2.3.4")
	for _, verdict := range []int{2, 3, 0, -1, 1, math.MaxInt, math.MinInt, 0, 0} {
		if !x.Put(p, verdict) {
			t.Error("a prefix isn't put again")
		}
		if got, ok := x.Get(p); !ok || got != verdict {
			t.Errorf("Get = %d, %v, want %d", got, ok, verdict)
		}
		if q, got, ok := x.Find(a); !ok || q != p || got != verdict {
			t.Errorf("Find = %+v, %d, %v, want %d", q, got, ok, verdict)
		}
		if x.Len() != 3 || len(x.All()) != 3 {
			t.Errorf("Len = %d, want 3", x.Len())
		}
	}
	if got, ok := x.Get(read(t, "10.1.0.0/16")); !ok || got != 3 {
		t.Errorf("another one's verdict is %d, %v, want 3", got, ok)
	}
	if got, ok := x.Get(read(t, "::/0")); !ok || got != 1 {
		t.Errorf("another one's verdict is %d, %v, want 1", got, ok)
	}
}

// P8.1: where a prefix may not be, nothing is done.
func TestPutOfNoPrefix(t *testing.T) {
	for _, x := range []*trie.Trie{trie.New(), of(t, "::/0 10.0.0.0/8 ::1/128")} {
		before := x.All()
		for _, p := range noPrefixes() {
			if x.Put(p, 1) {
				t.Errorf("Put(%+v) is true", p)
			}
			if got, ok := x.Get(p); ok || got != 0 {
				t.Errorf("Get(%+v) = %d, %v, want none", p, got, ok)
			}
			if x.Drop(p) {
				t.Errorf("Drop(%+v) is true", p)
			}
			if x.Len() != len(before) || !slices.Equal(x.All(), before) {
				t.Errorf("Put of %+v has changed something: %+v", p, x.All())
			}
		}
	}
}

// P8.1: one with two sides, with one, with none; and one that was never put, though two part there.
func TestDrop(t *testing.T) {
	const list = "10.0.0.0/8 10.0.0.0/9 10.128.0.0/9 10.1.0.0/16 10.1.2.3/32 12.0.0.0/8"
	for _, p := range readAll(t, list) {
		x, m := of(t, list), model{}
		for i, q := range readAll(t, list) {
			if q != p {
				m[q] = i + 1
			}
		}
		if !x.Drop(p) {
			t.Errorf("Drop(%s) is false", p.Text())
		}
		asked := []addr.Addr{readAddr(t, "10.1.2.3"), readAddr(t, "10.1.2.4"), readAddr(t, "10.2.0.0"), readAddr(t, "10.200.0.0"), readAddr(t, "12.1.1.1"), readAddr(t, "8.8.8.8"), readAddr(t, "::ffff:10.1.2.3"), readAddr(t, "::1")}
		same(t, x, m, asked, readAll(t, list))
		if x.Drop(p) {
			t.Errorf("Drop(%s) is true twice", p.Text())
		}
		same(t, x, m, asked, readAll(t, list))
		if !x.Put(p, 9) {
			t.Errorf("%s isn't put again", p.Text())
		}
		m[p] = 9
		same(t, x, m, asked, readAll(t, list))
	}
	x := of(t, list)
	for _, s := range []string{"::/0", "0.0.0.0/0", "8.0.0.0/5", "10.0.0.0/7", "10.0.0.0/10", "10.0.0.0/16", "10.1.2.2/31", "10.1.2.4/32", "12.0.0.0/9"} {
		if x.Drop(read(t, s)) {
			t.Errorf("Drop(%s) is true", s)
		}
	}
	if x.Len() != 6 || len(x.All()) != 6 {
		t.Errorf("Len = %d, want 6", x.Len())
	}
}

// P8.1: what parts two is none of the prefixes until it is put.
func TestWherePrefixesPart(t *testing.T) {
	x := of(t, "10.0.0.0/9 10.128.0.0/9")
	p := read(t, "10.0.0.0/8")
	if got, ok := x.Get(p); ok || got != 0 || x.Drop(p) || x.Len() != 2 {
		t.Errorf("Get(%s) = %d, %v, want none", p.Text(), got, ok)
	}
	if !x.Drop(read(t, "10.0.0.0/9")) {
		t.Error("one of two isn't dropped")
	}
	if got := found(t, x, "10.1.1.1"); got != "none" {
		t.Errorf("Find = %s, want none", got)
	}
	if got := found(t, x, "10.200.1.1"); got != "10.128.0.0/9" {
		t.Errorf("Find = %s", got)
	}
	if !x.Put(p, 5) || x.Len() != 2 {
		t.Error("it isn't put")
	}
	if got := found(t, x, "10.1.1.1"); got != "10.0.0.0/8" {
		t.Errorf("Find = %s", got)
	}
}

// P8.2
func TestFind(t *testing.T) {
	x := of(t, "0.0.0.0/0 10.0.0.0/8 10.1.0.0/16 10.1.2.3/32 2001:db8::/32 2001:db8:1::/48 ::1/128 fc00::/7")
	for s, want := range map[string]string{
		"10.1.1.1": "10.1.0.0/16", "11.1.1.1": "0.0.0.0/0", "::1": "::1/128", "::": "none", "::2": "none", "10.1.2.3": "10.1.2.3/32", "10.1.2.2": "10.1.0.0/16", "10.2.0.0": "10.0.0.0/8", "9.255.255.255": "0.0.0.0/0", "0.0.0.0": "0.0.0.0/0", "255.255.255.255": "0.0.0.0/0",
		"::ffff:10.1.2.3": "10.1.2.3/32", "::ffff:10.2.3.4": "10.0.0.0/8", "::ffff:11.1.1.1": "0.0.0.0/0", "::10.1.2.3": "none", "::fffe:10.1.2.3": "none", "1::ffff:10.1.2.3": "none",
		"2001:db8::": "2001:db8::/32", "2001:db8:1::": "2001:db8:1::/48", "2001:db8:1:ffff:ffff:ffff:ffff:ffff": "2001:db8:1::/48", "2001:db8:2::": "2001:db8::/32", "2001:db8:ffff:ffff:ffff:ffff:ffff:ffff": "2001:db8::/32", "2001:db9::": "none", "2001:db7::": "none", "fd00::1": "fc00::/7", "fe00::": "none", "fbff::": "none",
	} {
		if got := found(t, x, s); got != want {
			t.Errorf("Find(%s) = %s, want %s", s, got, want)
		}
	}
	if p, verdict, ok := x.Find(nil); ok || verdict != 0 || p != (prefix.Prefix{}) {
		t.Errorf("Find(nil) = %+v, %d, %v, want none", p, verdict, ok)
	}
}

// P8.2: the chapter's example.
func TestExample(t *testing.T) {
	x := of(t, "0.0.0.0/0 10.0.0.0/8")
	for s, want := range map[string]int{"10.1.1.1": 2, "11.1.1.1": 1, "::1": 0} {
		if _, got, ok := x.Find(readAddr(t, s)); got != want || ok != (want > 0) {
			t.Errorf("Find(%s) = %d, %v, want %d", s, got, ok, want)
		}
	}
}

// P8.2: a verdict of 0 is found as well as others, and doesn't let a shorter one speak.
func TestFindOfNoughts(t *testing.T) {
	x := trie.New()
	x.Put(read(t, "::/0"), 1)
	x.Put(read(t, "10.0.0.0/8"), 0)
	if p, verdict, ok := x.Find(readAddr(t, "10.1.1.1")); !ok || verdict != 0 || p != read(t, "10.0.0.0/8") {
		t.Errorf("Find = %+v, %d, %v", p, verdict, ok)
	}
}

// P8.2, P8.3: prefixes of all lengths within one another, put from both ends, dropped from both ends.
func TestWithinOneAnother(t *testing.T) {
	for _, a := range []six.Addr{{}, {Hi: ones, Lo: ones}, {Lo: 0xFFFF_0A01_0203}, six.Of(0x2001, 0xDB8, 0x1234, 0x5678, 0x9ABC, 0xDEF0, 1, 2)} {
		var up, asked = []prefix.Prefix{}, []addr.Addr{nil, a}
		for n := range 129 {
			p, _ := prefix.Of(a, n)
			up = append(up, p)
		}
		for bit := range 64 {
			asked = append(asked, six.Addr{Hi: a.Hi ^ 1<<bit, Lo: a.Lo}, six.Addr{Hi: a.Hi, Lo: a.Lo ^ 1<<bit})
		}
		down := slices.Clone(up)
		slices.Reverse(down)
		for _, order := range [][]prefix.Prefix{up, down} {
			x, m := trie.New(), model{}
			for i, p := range order {
				if !x.Put(p, i) {
					t.Errorf("Put(%s) is false", p.Text())
				}
				m[p] = i
				if i%16 == 0 {
					same(t, x, m, asked, up)
				}
			}
			same(t, x, m, asked, up)
			for i, p := range up {
				if !x.Drop(p) {
					t.Errorf("Drop(%s) is false", p.Text())
				}
				delete(m, p)
				if i%16 == 0 {
					same(t, x, m, asked, up)
				}
			}
			same(t, x, m, asked, up)
		}
	}
}

// P8.2: by their numbers, and of the same number by their lengths, however they were put.
func TestAll(t *testing.T) {
	order := readAll(t, "::/0 ::/1 ::/63 ::/64 ::/65 ::/96 ::/127 ::/128 ::1/128 ::2/127 ::2/128 ::fffe:0:0/95 0.0.0.0/0 0.0.0.0/8 0.0.0.0/32 9.0.0.0/8 10.0.0.0/8 10.0.0.0/9 10.0.0.1/32 10.128.0.0/9 255.255.255.255/32 ::1:0:0:0/96 0:0:0:0:8000::/65 0:0:0:1::/64 0:0:0:1::/128 2001:db8::/32 2001:db8::/33 8000::/1 8000::/128 c000::/2 ffff:ffff:ffff:ffff:ffff:ffff:ffff:ffff/128")
	next := chance()
	for range 200 {
		mixed := slices.Clone(order)
		for i := range mixed {
			j := i + next(len(mixed)-i)
			mixed[i], mixed[j] = mixed[j], mixed[i]
		}
		x := trie.New()
		for i, p := range mixed {
			x.Put(p, i)
		}
		if got := x.All(); !slices.Equal(got, order) {
			t.Fatalf("All = %+v, want %+v", got, order)
		}
	}
}

// P8.2: an answer is new memory.
func TestAllSharesNothing(t *testing.T) {
	x := of(t, "::/0 10.0.0.0/8 ::1/128")
	want := x.All()
	first := x.All()
	_ = append(first, prefix.Prefix{Len: 5})
	clear(first)
	if !slices.Equal(x.All(), want) || x.Len() != 3 || found(t, x, "10.1.1.1") != "10.0.0.0/8" {
		t.Error("who changes an answer of All changes the trie")
	}
}

// P8.1: a clone, and the one that it was made of, each changed by itself.
func TestClone(t *testing.T) {
	const list = "::/0 10.0.0.0/8 10.0.0.0/9 10.128.0.0/9 ::1/128"
	asked := []addr.Addr{readAddr(t, "10.1.1.1"), readAddr(t, "10.200.1.1"), readAddr(t, "11.1.1.1"), readAddr(t, "::1"), readAddr(t, "::2"), readAddr(t, "2001:db8::1")}
	further := readAll(t, "0.0.0.0/0 10.0.0.0/16 10.0.0.0/7 11.0.0.0/8 2001:db8::/32 ::/127")
	asks := append(readAll(t, list), further...)
	whole := model{}
	for i, p := range readAll(t, list) {
		whole[p] = i + 1
	}
	changes := []func(x *trie.Trie, m model){
		func(x *trie.Trie, m model) {
			for i, p := range further {
				x.Put(p, 10+i)
				m[p] = 10 + i
			}
		},
		func(x *trie.Trie, m model) {
			for p := range whole {
				x.Put(p, 99)
				m[p] = 99
			}
		},
		func(x *trie.Trie, m model) {
			for p := range whole {
				x.Drop(p)
				delete(m, p)
			}
		},
		func(x *trie.Trie, m model) {
			x.Drop(read(t, "10.0.0.0/8"))
			delete(m, read(t, "10.0.0.0/8"))
		},
	}
	for _, change := range changes {
		x := of(t, list)
		c := x.Clone()
		if c == x {
			t.Fatal("a clone is what it was made of")
		}
		same(t, c, whole, asked, asks)
		m := whole.clone()
		change(c, m)
		same(t, c, m, asked, asks)
		same(t, x, whole, asked, asks)

		c = x.Clone()
		m = whole.clone()
		change(x, m)
		same(t, x, m, asked, asks)
		same(t, c, whole, asked, asks)
	}
	empty := trie.New()
	c := empty.Clone()
	if c == nil || c == empty || c.Len() != 0 || !c.Put(prefix.Prefix{}, 1) || empty.Len() != 0 {
		t.Error("the clone of one without prefixes isn't one of its own")
	}
}

// P8.2: of nil nothing, false.
func TestNil(t *testing.T) {
	var x *trie.Trie
	if x.Clone() != nil || x.Len() != 0 || len(x.All()) != 0 {
		t.Error("a nil trie has something")
	}
	for _, p := range append(noPrefixes(), prefix.Prefix{}, prefix.Prefix{Len: 128}, read(t, "10.0.0.0/8")) {
		if x.Put(p, 1) || x.Drop(p) {
			t.Errorf("in a nil trie %+v is put, or dropped", p)
		}
		if got, ok := x.Get(p); ok || got != 0 {
			t.Errorf("Get(%+v) of a nil trie = %d, %v", p, got, ok)
		}
	}
	for _, a := range []addr.Addr{nil, four.Addr(0), six.Addr{}, four.Of(10, 1, 1, 1)} {
		if p, verdict, ok := x.Find(a); ok || verdict != 0 || p != (prefix.Prefix{}) {
			t.Errorf("Find(%v) of a nil trie = %+v, %d, %v", a, p, verdict, ok)
		}
	}
}

// P8.1, P8.2, P8.3: many steps, each held against the model.
func TestManySteps(t *testing.T) {
	next := chance()
	address := pick(next)
	for range 300 {
		x, m := trie.New(), model{}
		var asks []prefix.Prefix
		for range 1 + next(80) {
			p, _ := prefix.Of(address(), lengths[next(len(lengths))])
			asks = append(asks, p)
			if len(asks) > 1 && next(3) == 0 {
				p = asks[next(len(asks))]
			}
			_, is := m[p]
			switch next(5) {
			case 0, 1:
				if got := x.Drop(p); got != is {
					t.Errorf("Drop(%s) = %v, want %v", p.Text(), got, is)
				}
				delete(m, p)
			default:
				verdict := next(5) - 2
				if !x.Put(p, verdict) {
					t.Errorf("Put(%s) is false", p.Text())
				}
				m[p] = verdict
			}
			if next(20) == 0 {
				x = x.Clone()
			}
		}
		asked := []addr.Addr{nil, four.Of(10, 0, 0, 0), four.Of(11, 0, 0, 0)}
		for range 60 {
			asked = append(asked, address())
		}
		same(t, x, m, asked, asks)
	}
}

// P8.3: the longest one has the address, and no longer one does.
func TestLongest(t *testing.T) {
	next := chance()
	address := pick(next)
	x := trie.New()
	for range 400 {
		p, _ := prefix.Of(address(), lengths[3+next(len(lengths)-3)]) // none so short that each address is found
		x.Put(p, next(9))
	}
	some, none := 0, 0
	for range 5000 {
		a := address()
		a.Hi ^= uint64(next(2)) << 50
		p, _, ok := x.Find(a)
		if ok {
			some++
		} else {
			none++
		}
		if ok && !p.Has(a) {
			t.Errorf("Find(%s) = %s, which hasn't it", a.Text(), p.Text())
		}
		for _, q := range x.All() {
			if q.Has(a) && (!ok || q.Len > p.Len) {
				t.Errorf("Find(%s) = %s, %v, though %s has it", a.Text(), p.Text(), ok, q.Text())
			}
		}
	}
	if some < 100 || none < 100 {
		t.Errorf("but %d of the addresses are found, %d aren't", some, none)
	}
}

// P1: as many prefixes as one likes, all of them as long as may be.
func TestMany(t *testing.T) {
	const count = 200000
	x := trie.New()
	next := chance()
	for i := range count {
		a := six.Addr{Hi: uint64(next(1<<31)) << 33, Lo: uint64(i)}
		p, _ := prefix.Of(a, 128)
		if !x.Put(p, i) {
			t.Fatalf("Put(%s) is false", p.Text())
		}
	}
	list := x.All()
	if x.Len() != count || len(list) != count {
		t.Fatalf("Len = %d, All has %d, want %d", x.Len(), len(list), count)
	}
	for _, p := range list {
		q, verdict, ok := x.Find(six.Addr{Hi: p.Hi, Lo: p.Lo})
		if !ok || q != p || verdict != int(p.Lo) {
			t.Fatalf("Find(%s) = %s, %d, %v", p.Text(), q.Text(), verdict, ok)
		}
	}
	for _, p := range list {
		if !x.Drop(p) {
			t.Fatalf("Drop(%s) is false", p.Text())
		}
	}
	if x.Len() != 0 || len(x.All()) != 0 {
		t.Errorf("Len = %d, want 0", x.Len())
	}
}
