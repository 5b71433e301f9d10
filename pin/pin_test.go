package pin_test

import (
	"math"
	"slices"
	"strings"
	"testing"

	"mantrap/addr"
	"mantrap/api"
	"mantrap/authority"
	"mantrap/domain"
	"mantrap/four"
	"mantrap/host"
	"mantrap/pin"
	"mantrap/policy"
	"mantrap/six"
)

// chance tells a source of numbers that look like chance, the same ones at each run.
func chance() func(below int) int {
	state := uint64(1)
	return func(below int) int {
		state = state*6364136223846793005 + 1442695040888963407
		return int((state >> 33) % uint64(below))
	}
}

// gate tells the gate of a policy's lines.
func gate(t *testing.T, lines ...string) *policy.Gate {
	t.Helper()
	p, line, e := policy.Parse(strings.Join(lines, "\n"))
	if e != api.OK {
		t.Fatalf("line %d is no policy's: %d", line, e)
	}
	g, e := policy.Build(p)
	if e != api.OK {
		t.Fatalf("no gate is of %q: %d", lines, e)
	}
	return g
}

// outside tells a gate that allows all but the special ranges, and 8.8.4.0/24.
func outside(t *testing.T) *policy.Gate {
	t.Helper()
	return gate(t, "allow 0.0.0.0/0", "allow ::/0", "deny 8.8.4.0/24", "port 80", "port 8080")
}

// read tells the addresses of a text, with blanks between.
func read(t *testing.T, text string) []addr.Addr {
	t.Helper()
	var list []addr.Addr
	for _, word := range strings.Fields(text) {
		a, ok := addr.Parse(word)
		if !ok {
			t.Fatalf("%q is no address", word)
		}
		list = append(list, a)
	}
	return list
}

// site tells one of a host, at port 80.
func site(h host.Host) authority.Site {
	return authority.Site{Scheme: "http", Host: h, Port: 80}
}

// many tells so many addresses, each another one, all of which an open gate allows.
func many(n int) []addr.Addr {
	list := make([]addr.Addr, n)
	for i := range list {
		list[i] = four.Of(9, 9, 9, byte(i))
		if i%3 == 1 {
			list[i] = six.Of(0x2606, 0x4700, 0, 0, 0, 0, 0, uint16(i))
		}
	}
	return list
}

// checkPin holds what a pin tells against what is wanted of it.
func checkPin(t *testing.T, p pin.Pin, s authority.Site, want ...addr.Addr) {
	t.Helper()
	if got := p.Addrs(); p.Site != s || p.Len() != len(want) || !slices.Equal(got, want) {
		t.Errorf("of %+v Len = %d, Addrs = %q, want %q", p.Site, p.Len(), addr.Texts(got...), addr.Texts(want...))
	}
	for i, a := range want {
		if got, ok := p.At(i); !ok || got != a {
			t.Errorf("At(%d) = %v, %v, want %s", i, got, ok, a.Text())
		}
		if !p.Has(a) {
			t.Errorf("it doesn't have %s", a.Text())
		}
	}
	for _, i := range []int{-1, -2, len(want), len(want) + 1, 16, 17, math.MinInt, math.MaxInt} {
		if i >= 0 && i < len(want) {
			continue
		}
		if got, ok := p.At(i); ok || got != nil {
			t.Errorf("At(%d) of %d = %v, %v", i, len(want), got, ok)
		}
	}
}

// checkApproved fails, where a site isn't approved with the wanted addresses, in order.
func checkApproved(t *testing.T, g *policy.Gate, s authority.Site, answers []addr.Addr, want ...addr.Addr) {
	t.Helper()
	p, e := pin.Approve(g, s, answers...)
	if e != api.OK {
		t.Errorf("Approve(%+v, %q) = %d", s, addr.Texts(answers...), e)
		return
	}
	checkPin(t, p, s, want...)
}

// checkRefused fails, where a site isn't refused with the wanted error, and the zero pin.
func checkRefused(t *testing.T, g *policy.Gate, s authority.Site, want api.Errno, answers ...addr.Addr) {
	t.Helper()
	p, e := pin.Approve(g, s, answers...)
	if e != want {
		t.Errorf("Approve(%+v, %q) = %d, want %d", s, addr.Texts(answers...), e, want)
	}
	checkPin(t, p, authority.Site{})
}

// P22.1: a name: all answers, in their order, also such as stand there twice.
func TestApproveOfName(t *testing.T) {
	g := outside(t)
	for _, text := range []string{
		"8.8.8.8", "2606:4700::1", "8.8.8.8 1.1.1.1", "1.1.1.1 8.8.8.8", "8.8.8.8 8.8.8.8", "2606:4700::1 8.8.8.8 2606:4700::1 8.8.8.8", "::ffff:8.8.8.8 8.8.8.8", "2002:808:808::1 64:ff9b::808:808",
		strings.Repeat("8.8.8.8 ", 16), "8.8.3.255 8.8.5.0",
	} {
		for _, name := range []domain.Name{"a", "a.b.", "localhost", "1.2.3.4", "::1", "", "A b"} {
			l := read(t, text)
			checkApproved(t, g, site(name), l, l...)
		}
	}
	for n := 1; n <= 16; n++ {
		checkApproved(t, g, site(domain.Name("a")), many(n), many(n)...)
	}
	for n := 17; n <= 40; n++ {
		checkRefused(t, g, site(domain.Name("a")), api.ErrMany, many(n)...)
	}
	for _, s := range []authority.Site{{Scheme: "https", Host: domain.Name("a"), Port: 8080, User: true}, {Host: domain.Name("a"), Port: 80}, {Scheme: "ftp", Host: domain.Name("a"), Port: 8080}} {
		checkApproved(t, g, s, many(2), many(2)...)
	}
}

// P22.1: an address: that one alone, whatever the answers are.
func TestApproveOfAddress(t *testing.T) {
	g := outside(t)
	lists := [][]addr.Addr{nil, {}, {nil}, read(t, "8.8.8.8"), read(t, "127.0.0.1"), read(t, "8.8.4.4 ::1 8.8.8.8"), many(1), many(16), many(17), many(1000), append(many(16), nil)}
	for _, l := range lists {
		for _, h := range []host.Host{four.Of(8, 8, 8, 8), four.Of(1, 1, 1, 1), six.Of(0x2606, 0x4700, 0, 0, 0, 0, 0, 1), six.Addr{Lo: 0xFFFF_0808_0808}} {
			a, _ := host.Addr(h)
			checkApproved(t, g, site(h), l, a)
		}
		for _, h := range []host.Host{four.Of(127, 0, 0, 1), four.Of(8, 8, 4, 4), four.Addr(0), six.Addr{}, six.Addr{Lo: 1}, six.Addr{Lo: 0xFFFF_0808_0404}, six.Addr{Lo: 0xFFFF_7F00_0001}} {
			checkRefused(t, g, site(h), api.ErrDenied, l...)
		}
	}
}

// P22.1: each of the gate's ports, and others; a gate of none, and no gate.
func TestPort(t *testing.T) {
	a := four.Of(8, 8, 8, 8)
	without := gate(t, "allow 0.0.0.0/0")
	for _, h := range []host.Host{domain.Name("a"), a} {
		s := site(h)
		for _, port := range []int{80, 8080} {
			s.Port = port
			checkApproved(t, outside(t), s, []addr.Addr{a}, a)
			checkRefused(t, without, s, api.ErrPort, a)
			checkRefused(t, nil, s, api.ErrPort, a)
		}
		for _, port := range []int{0, 1, 79, 81, 443, 8079, 8081, 65535, 65536, 65616, -1, -80, math.MinInt, math.MaxInt, 1<<32 + 80} {
			s.Port = port
			checkRefused(t, outside(t), s, api.ErrPort, a)
			checkRefused(t, without, s, api.ErrPort, a)
			checkRefused(t, nil, s, api.ErrPort, a)
		}
	}
	for _, scheme := range []string{"http", "https"} { // the scheme's own port isn't the gate's by itself
		checkRefused(t, outside(t), authority.Site{Scheme: scheme, Host: a, Port: 443}, api.ErrPort)
	}
}

// P22.1: one that isn't allowed is enough, at the first place, in the middle, at the last.
func TestDenied(t *testing.T) {
	g := outside(t)
	s := site(domain.Name("a"))
	for _, wrong := range []addr.Addr{nil, four.Of(127, 0, 0, 1), four.Of(10, 0, 0, 1), four.Of(8, 8, 4, 0), four.Of(8, 8, 4, 255), four.Addr(0), six.Addr{}, six.Addr{Lo: 1}, six.Of(0xFE80, 0, 0, 0, 0, 0, 0, 1)} {
		for n := range 16 {
			for at := range n + 1 {
				l := slices.Insert(many(n), at, wrong)
				checkRefused(t, g, s, api.ErrDenied, l...)
			}
		}
		checkRefused(t, g, s, api.ErrDenied, slices.Repeat([]addr.Addr{wrong}, 16)...)
		checkRefused(t, g, s, api.ErrMany, slices.Repeat([]addr.Addr{wrong}, 17)...)
	}
	// What no prefix has isn't allowed, of a bare policy as well.
	checkRefused(t, gate(t, "port 80"), s, api.ErrDenied, four.Of(8, 8, 8, 8))
	checkRefused(t, gate(t, "bare", "allow 8.8.8.0/24", "port 80"), s, api.ErrDenied, read(t, "8.8.8.8 8.8.9.0")...)
	checkApproved(t, gate(t, "bare", "allow 127.0.0.0/8", "port 80"), s, read(t, "127.0.0.1"), read(t, "127.0.0.1")...)
}

// P22.1, P22.3: an address that is allowed itself, but embeds one that isn't, in each of the forms.
func TestDeniedByWhatItEmbeds(t *testing.T) {
	g := gate(t, "bare", "allow ::/0", "deny 127.0.0.0/8", "port 80")
	for _, text := range []string{"::ffff:7f00:1", "::7f00:1", "64:ff9b::7f00:1", "2002:7f00:1::", "2002:7fff:ffff::1", "2001:0:7f00:1::", "2001:0:808:808::80ff:fffe", "1::5efe:7f00:1", "fe80::200:5efe:7f00:1"} {
		inside := read(t, text)
		checkRefused(t, g, site(domain.Name("a")), api.ErrDenied, inside...)
		checkRefused(t, g, site(domain.Name("a")), api.ErrDenied, append(many(5), inside...)...)
		checkRefused(t, g, site(inside[0].(host.Host)), api.ErrDenied)
		checkRefused(t, g, site(inside[0].(host.Host)), api.ErrDenied, four.Of(8, 8, 8, 8))
	}
	for _, text := range []string{"::ffff:808:808", "::808:808", "64:ff9b::808:808", "2002:808:808::7f00:1", "2001:0:808:808::", "1::5efe:808:808", "1::7f00:1", "2003:7f00:1::", "64:ff9b:1::7f00:1"} {
		l := read(t, text)
		checkApproved(t, g, site(domain.Name("a")), l, l...)
		checkApproved(t, g, site(l[0].(host.Host)), nil, l...)
	}
}

// P22.1: each fault with each one of the others: the first one's error is told.
func TestFaults(t *testing.T) {
	open, shut := outside(t), gate(t, "allow 0.0.0.0/0", "allow ::/0")
	denied := four.Of(127, 0, 0, 1)
	lists := map[api.Errno][][]addr.Addr{
		api.OK:        {many(1), many(16), append(many(1), many(1)...)},
		api.ErrEmpty:  {nil, {}, many(3)[:0]},
		api.ErrMany:   {many(17), many(40), append(many(16), denied), append([]addr.Addr{denied}, many(16)...), slices.Repeat([]addr.Addr{nil}, 17)},
		api.ErrDenied: {{denied}, append(many(15), denied), append([]addr.Addr{denied}, many(15)...), {nil}},
	}
	sites := map[string][]host.Host{
		"none": {nil}, "name": {domain.Name("a"), domain.Name("")},
		"allowed": {four.Of(8, 8, 8, 8), six.Of(0x2606, 0x4700)}, "denied": {denied, six.Addr{Lo: 1}, six.Addr{Lo: 0xFFFF_7F00_0001}},
	}
	told := map[api.Errno]int{}
	for kind, hosts := range sites {
		for _, h := range hosts {
			for _, g := range []*policy.Gate{open, shut, nil} {
				for _, port := range []int{80, 81, 0, -1} {
					for of, answers := range lists {
						want := of
						switch {
						case kind == "none":
							want = api.ErrHost
						case g != open || port != 80:
							want = api.ErrPort
						case kind == "allowed":
							want = api.OK
						case kind == "denied":
							want = api.ErrDenied
						}
						for _, l := range answers {
							s := authority.Site{Scheme: "http", Host: h, Port: port, User: true}
							told[want]++
							if want != api.OK {
								checkRefused(t, g, s, want, l...)
							} else if kind == "allowed" {
								a, _ := host.Addr(h)
								checkApproved(t, g, s, l, a)
							} else {
								checkApproved(t, g, s, l, l...)
							}
						}
					}
				}
			}
		}
	}
	for _, e := range []api.Errno{api.OK, api.ErrHost, api.ErrPort, api.ErrEmpty, api.ErrMany, api.ErrDenied} {
		if told[e] < 6 {
			t.Errorf("but %d are %d", told[e], e)
		}
	}
	checkRefused(t, nil, authority.Site{}, api.ErrHost)
	checkRefused(t, open, authority.Site{}, api.ErrHost, many(1)...)
}

// P22.2: what a pin doesn't have: others, such as are alike, those of the other sort with the same number, nil.
func TestHas(t *testing.T) {
	g := gate(t, "bare", "allow ::/0", "port 80")
	narrow, wide := four.Of(8, 8, 8, 8), six.Addr{Lo: 0xFFFF_0808_0808}
	other := six.Of(1, 2, 3, 4, 5, 6, 7, 8)
	for _, c := range []struct{ has, hasNot []addr.Addr }{
		{[]addr.Addr{narrow}, []addr.Addr{wide, other, six.Addr{Lo: 0x0808_0808}, six.Addr{Hi: 0x0808_0808}}},
		{[]addr.Addr{wide}, []addr.Addr{narrow, other, six.Addr{Lo: 0x0808_0808}, six.Addr{Hi: 0xFFFF_0808_0808}, six.Addr{Hi: 1, Lo: 0xFFFF_0808_0808}}},
		{[]addr.Addr{narrow, wide}, []addr.Addr{other}},
		{[]addr.Addr{wide, other, narrow}, nil},
		{[]addr.Addr{other, other}, []addr.Addr{narrow, wide, six.Of(1, 2, 3, 4, 5, 6, 7, 9), six.Of(0, 2, 3, 4, 5, 6, 7, 8), six.Of(5, 6, 7, 8, 1, 2, 3, 4)}},
		{[]addr.Addr{four.Addr(0)}, []addr.Addr{six.Addr{}, six.Addr{Lo: 0xFFFF_0000_0000}}},
		{[]addr.Addr{six.Addr{}}, []addr.Addr{four.Addr(0), six.Addr{Lo: 0xFFFF_0000_0000}}},
	} {
		p, e := pin.Approve(g, site(domain.Name("a")), c.has...)
		if e != api.OK {
			t.Errorf("%q aren't approved: %d", addr.Texts(c.has...), e)
		}
		checkPin(t, p, site(domain.Name("a")), c.has...)
		for _, a := range append(c.hasNot, nil, four.Of(8, 8, 8, 9), four.Of(9, 8, 8, 8), six.Addr{Lo: 1}, six.Addr{Hi: math.MaxUint64, Lo: math.MaxUint64}) {
			if p.Has(a) {
				t.Errorf("of %q it has %q", addr.Texts(c.has...), addr.Texts(a))
			}
		}
	}
	// Of a site that is an address the answers aren't the pin's.
	p, _ := pin.Approve(g, site(narrow), wide, other)
	if p.Has(wide) || p.Has(other) || p.Has(nil) || !p.Has(narrow) {
		t.Errorf("it has others than %s", narrow.Text())
	}
}

// P22.2: of the zero pin none, also of one that has a site alone.
func TestZero(t *testing.T) {
	for _, p := range []pin.Pin{{}, {Site: site(domain.Name("a"))}, {Site: site(four.Of(8, 8, 8, 8))}} {
		checkPin(t, p, p.Site)
		for _, a := range append(many(3), nil, four.Addr(0), six.Addr{}, four.Of(8, 8, 8, 8)) {
			if p.Has(a) {
				t.Errorf("a pin of none has %q", addr.Texts(a))
			}
		}
		if a, ok := p.At(0); ok || a != nil {
			t.Errorf("At(0) = %v, %v", a, ok)
		}
	}
}

// P22.3 and memory: what was handed in, and what was handed out, is written into afterwards.
func TestNothingIsShared(t *testing.T) {
	g := outside(t)
	room := read(t, "8.8.8.8 1.1.1.1 2606:4700::1 9.9.9.9 9.9.9.8")
	whole := slices.Clone(room)
	want := slices.Clone(room[:3])
	s := site(domain.Name("a"))
	p, e := pin.Approve(g, s, room[:3]...)
	q, f := pin.Approve(g, s, room[:3]...)
	if e != api.OK || f != api.OK || !slices.Equal(room, whole) {
		t.Errorf("what was handed in is %q now", addr.Texts(room...))
	}
	room[0], room[1], room[2], room[3] = four.Of(127, 0, 0, 1), nil, six.Addr{Lo: 1}, nil
	twin := p
	for range 2 {
		for _, one := range []pin.Pin{p, q, twin} {
			checkPin(t, one, s, want...)
			for _, wrong := range room[:3] {
				if one.Has(wrong) {
					t.Errorf("it has %q", addr.Texts(wrong))
				}
			}
			first, second := one.Addrs(), one.Addrs()
			first[0], first[2] = nil, four.Of(127, 0, 0, 1)
			first = append(first, nil)
			clear(first[:cap(first)])
			if !slices.Equal(second, want) {
				t.Errorf("two answers are one: %q", addr.Texts(second...))
			}
		}
	}
	p.Site.Port = 1
	checkPin(t, twin, s, want...)
	s.Host = four.Of(8, 8, 8, 8)
	p, _ = pin.Approve(g, s, want...)
	l := p.Addrs()
	l[0] = nil
	checkPin(t, p, s, four.Of(8, 8, 8, 8))
	// The gate that goes on to other things changes nothing either.
	g = gate(t, "port 80")
	checkPin(t, p, s, four.Of(8, 8, 8, 8))
	checkRefused(t, g, s, api.ErrDenied)
}

// allowed tells whether the gate outside tells is to allow an address, by the ranges alone from which by chance are some.
func allowed(a addr.Addr) bool {
	narrow, ok := addr.Four(a)
	if !ok {
		inner := addr.Inner(a)
		return a != nil && addr.Must(a).Hi>>48 == 0x2606 && !slices.ContainsFunc(inner, func(b four.Addr) bool { return !allowed(b) })
	}
	b := narrow.Bytes()
	return b[0] != 127 && b[0] != 10 && !(b[0] == 8 && b[1] == 8 && b[2] == 4)
}

// some tells an address by chance, most of them allowed.
func some(next func(int) int) addr.Addr {
	switch last := byte(next(250)); next(24) {
	case 0:
		return four.Of(127, 0, 0, last)
	case 1:
		return four.Of(10, 0, last, 0)
	case 2:
		return four.Of(8, 8, 4, last)
	case 3:
		return six.Addr{Hi: 0xFE80 << 48, Lo: uint64(last)}
	case 4:
		return six.Addr{Hi: 0x2606 << 48, Lo: 0x5EFE_7F00_0000 | uint64(last)}
	case 5:
		return six.Addr{Hi: 0x2606 << 48, Lo: 0x5EFE_0808_0800 | uint64(last)}
	case 6, 7, 8, 9:
		return six.Addr{Hi: 0x2606<<48 | uint64(last), Lo: uint64(last)}
	default:
		return four.Of(8, 8, 8, last)
	}
}

// P22.1, P22.2, P22.3: sites and answers by chance: what is approved, and that all of it is allowed, with what it embeds.
func TestAgainstAModel(t *testing.T) {
	g, next, told := outside(t), chance(), map[api.Errno]int{}
	for range 50000 {
		l := make([]addr.Addr, next(19))
		for i := range l {
			l[i] = some(next)
		}
		s, candidates := site(domain.Name("a")), l
		if next(4) == 0 {
			a := some(next)
			s.Host, candidates = a.(host.Host), []addr.Addr{a}
		}
		if next(10) == 0 {
			s.Port = 70 + next(20)
		}
		want := api.OK
		switch {
		case s.Port != 80:
			want = api.ErrPort
		case len(candidates) == 0:
			want = api.ErrEmpty
		case len(candidates) > 16:
			want = api.ErrMany
		case slices.ContainsFunc(candidates, func(a addr.Addr) bool { return !allowed(a) }):
			want = api.ErrDenied
		}
		told[want]++
		if want != api.OK {
			checkRefused(t, g, s, want, l...)
			continue
		}
		checkApproved(t, g, s, l, candidates...)
		p, _ := pin.Approve(g, s, l...)
		for _, a := range p.Addrs() {
			if !g.Verdict(a) || slices.ContainsFunc(addr.Inner(a), func(b four.Addr) bool { return !g.Verdict(b) }) {
				t.Errorf("%s is approved", a.Text())
			}
		}
		if a := some(next); p.Has(a) != slices.Contains(candidates, a) {
			t.Errorf("of %q it has %s: %v", addr.Texts(candidates...), a.Text(), p.Has(a))
		}
	}
	for _, e := range []api.Errno{api.OK, api.ErrPort, api.ErrEmpty, api.ErrMany, api.ErrDenied} {
		if told[e] < 1000 {
			t.Errorf("but %d are %d", told[e], e)
		}
	}
}

// What the chapter's example says.
func TestExample(t *testing.T) {
	g := gate(t, "allow 0.0.0.0/0", "deny 127.0.0.0/8", "port 80")
	checkRefused(t, g, site(domain.Name("a")), api.ErrDenied, four.Of(8, 8, 8, 8), four.Of(127, 0, 0, 1))
	checkApproved(t, g, site(domain.Name("a")), read(t, "8.8.8.8"), four.Of(8, 8, 8, 8))
}
