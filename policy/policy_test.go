package policy_test

import (
	"math"
	"slices"
	"strconv"
	"strings"
	"testing"

	"mantrap/addr"
	"mantrap/api"
	"mantrap/four"
	"mantrap/policy"
	"mantrap/prefix"
	"mantrap/six"
	"mantrap/special"
)

// chance tells a source of numbers that look like chance, the same ones at each run.
func chance() func(below int) int {
	state := uint64(1)
	return func(below int) int {
		state = state*6364136223846793005 + 1442695040888963407
		return int((state >> 33) % uint64(below))
	}
}

// readPrefix tells the prefix that a text is.
func readPrefix(t *testing.T, s string) prefix.Prefix {
	t.Helper()
	p, ok := prefix.Parse(s)
	if !ok {
		t.Fatalf("%q is no prefix", s)
	}
	return p
}

// readAddr tells the address that a text is; nil of nil.
func readAddr(t *testing.T, s string) addr.Addr {
	t.Helper()
	if s == "nil" {
		return nil
	}
	a, ok := addr.Parse(s)
	if !ok {
		t.Fatalf("%q is no address", s)
	}
	return a
}

// readAddrs tells the addresses of a text, with blanks between.
func readAddrs(t *testing.T, s string) []addr.Addr {
	t.Helper()
	var list []addr.Addr
	for _, word := range strings.Fields(s) {
		list = append(list, readAddr(t, word))
	}
	return list
}

// rules tells the rules of a text, with blanks between: + or -, and a prefix.
func rules(t *testing.T, s string) []policy.Rule {
	t.Helper()
	var list []policy.Rule
	for _, word := range strings.Fields(s) {
		list = append(list, policy.Rule{Prefix: readPrefix(t, word[1:]), Allow: word[0] == '+'})
	}
	return list
}

// build tells the gate of a policy that may be.
func build(t *testing.T, p policy.Policy) *policy.Gate {
	t.Helper()
	g, e := policy.Build(p)
	if e != api.OK || g == nil {
		t.Fatalf("Build(%v) = %v, %d", p, g, e)
	}
	return g
}

// same tells whether two policies are; lists without elements are the same ones.
func same(p, q policy.Policy) bool {
	return p.Bare == q.Bare && slices.Equal(p.Rules, q.Rules) && slices.Equal(p.Ports, q.Ports)
}

// verdict is what a policy says of an address, all prefixes gone through one by one.
func verdict(p policy.Policy, a addr.Addr) bool {
	longest, allow := -1, false
	if !p.Bare {
		for _, row := range special.Rows() {
			if row.Prefix.Has(a) && row.Prefix.Len >= longest {
				longest, allow = row.Prefix.Len, false
			}
		}
	}
	for _, r := range p.Rules {
		if r.Prefix.Has(a) && r.Prefix.Len >= longest {
			longest, allow = r.Prefix.Len, r.Allow
		}
	}
	return allow
}

// many tells so many elements, all the same.
func many[T any](n int, one T) []T {
	return slices.Repeat([]T{one}, n)
}

// P10.1
func TestCheck(t *testing.T) {
	right := policy.Rule{Prefix: prefix.Prefix{Lo: 0xFFFF_0A00_0000, Len: 104}, Allow: true}
	wrong := policy.Rule{Prefix: prefix.Prefix{Lo: 1, Len: 127}}
	for i, c := range []struct {
		rules  []policy.Rule
		ports  []int
		wanted api.Errno
	}{
		{nil, nil, api.OK},
		{[]policy.Rule{}, []int{}, api.OK},
		{many(1, right), []int{443}, api.OK},
		{many(256, right), many(16, 1), api.OK},
		{many(257, right), nil, api.ErrMany},
		{many(5000, right), nil, api.ErrMany},
		{nil, many(17, 1), api.ErrMany},
		{many(257, right), many(17, 1), api.ErrMany},
		{many(256, right), many(17, 1), api.ErrMany},
		{many(257, right), many(16, 1), api.ErrMany},
		{nil, []int{1, 65535, 80, 80}, api.OK},
		{nil, []int{0}, api.ErrPort},
		{nil, []int{65536}, api.ErrPort},
		{nil, []int{-1}, api.ErrPort},
		{nil, []int{math.MaxInt}, api.ErrPort},
		{nil, []int{math.MinInt}, api.ErrPort},
		{nil, append(many(15, 80), 0), api.ErrPort},
		{nil, append([]int{65536}, many(15, 80)...), api.ErrPort},
		{many(1, wrong), nil, api.ErrArg},
		{append(many(255, right), wrong), nil, api.ErrArg},
		{append(many(1, wrong), many(255, right)...), nil, api.ErrArg},
		// Several at once: the one that is named first.
		{append(many(255, right), wrong), []int{0}, api.ErrArg},
		{append(many(256, right), wrong), nil, api.ErrMany},
		{many(257, wrong), []int{0}, api.ErrMany},
		{many(1, wrong), many(17, 1), api.ErrMany},
		{many(1, wrong), many(17, 0), api.ErrMany},
		{many(1, right), many(17, 0), api.ErrMany},
		{many(1, wrong), many(16, 65536), api.ErrArg},
	} {
		for _, bare := range []bool{false, true} {
			p := policy.Policy{Rules: c.rules, Ports: c.ports, Bare: bare}
			if e := p.Check(); e != c.wanted {
				t.Errorf("%d: Check = %d, want %d", i, e, c.wanted)
			}
			g, e := policy.Build(p)
			if e != c.wanted || (g != nil) != (c.wanted == api.OK) {
				t.Errorf("%d: Build = %v, %d, want %d", i, g, e, c.wanted)
			}
		}
	}
}

// P10.1: prefixes that may not be, each alone.
func TestCheckOfPrefixesThatMayNotBe(t *testing.T) {
	for _, q := range []prefix.Prefix{{Len: -1}, {Len: 129}, {Len: math.MaxInt}, {Len: math.MinInt}, {Lo: 1}, {Hi: 1 << 63}, {Hi: 1, Len: 63}, {Lo: 1 << 63, Len: 64}, {Lo: 0xFFFF_0A00_0001, Len: 104}} {
		p := policy.Policy{Rules: []policy.Rule{{Prefix: q, Allow: true}}}
		if e := p.Check(); e != api.ErrArg {
			t.Errorf("Check of %+v = %d", q, e)
		}
		if g, e := policy.Build(p); g != nil || e != api.ErrArg {
			t.Errorf("Build of %+v = %v, %d", q, g, e)
		}
	}
}

// P10.1, P10.2: the trie of a gate is the table as denied, then the rules, in order.
func TestAGatesTrie(t *testing.T) {
	own := rules(t, "+0.0.0.0/0 +10.0.0.0/8 -10.0.0.0/8 -1.2.3.4/32 +1.2.3.4/32 +::/0 -127.0.0.0/8")
	for _, bare := range []bool{false, true} {
		wanted := map[prefix.Prefix]int{}
		for _, row := range special.Rows() {
			if !bare {
				wanted[row.Prefix] = 0
			}
		}
		for _, r := range own {
			wanted[r.Prefix] = 0
			if r.Allow {
				wanted[r.Prefix] = 1
			}
		}
		g := build(t, policy.Policy{Rules: own, Bare: bare})
		if g.Len() != len(wanted) {
			t.Errorf("bare %v: %d prefixes, want %d", bare, g.Len(), len(wanted))
		}
		for p, verdict := range wanted {
			if got, ok := g.Get(p); got != verdict || !ok {
				t.Errorf("bare %v: %s is %d, %v, want %d", bare, p.Text(), got, ok, verdict)
			}
		}
		p, verdict, ok := g.Find(four.Of(1, 2, 3, 4))
		if p.Text() != "1.2.3.4/32" || verdict != 1 || !ok {
			t.Errorf("bare %v: Find(1.2.3.4) = %s, %d, %v", bare, p.Text(), verdict, ok)
		}
	}
}

// P10.2
func TestVerdictAndAllows(t *testing.T) {
	const all = "+0.0.0.0/0 +::/0"
	for _, c := range []struct {
		rules    string
		bare     bool
		allowed  string
		embedded string // whose verdict is allowed, but not that of one that they embed
		denied   string
	}{
		{"", false, "", "", "8.8.8.8 127.0.0.1 :: ::1 2606:4700::1 nil"},
		{"", true, "", "", "8.8.8.8 127.0.0.1 :: ::1 2606:4700::1 nil"},
		{"+0.0.0.0/0", false, "8.8.8.8 ::ffff:8.8.8.8 9.255.255.255 11.0.0.0", "", "127.0.0.1 ::ffff:127.0.0.1 10.0.0.0 10.255.255.255 0.0.0.0 255.255.255.255 ::8.8.8.8 64:ff9b::808:808 2606:4700::1 ::1 nil"},
		{"+0.0.0.0/0", true, "8.8.8.8 ::ffff:8.8.8.8 127.0.0.1 ::ffff:127.0.0.1 10.0.0.1 0.0.0.0 255.255.255.255", "", "2606:4700::1 ::1 :: nil"},
		{"+::/0", false, "8.8.8.8 ::ffff:8.8.8.8 2606:4700::1 ::8.8.8.8 64:ff9b::808:808 2002:808:808:: 1::5efe:808:808 1::200:5efe:808:808 1::1:5efe:7f00:1",
			"::127.0.0.1 ::2 64:ff9b::7f00:1 2002:7f00:1:: 2002:a00:1::808:808 1::5efe:7f00:1 1::200:5efe:c0a8:1 64:ff9b::a00:1 2002:0:0::1",
			"127.0.0.1 ::ffff:127.0.0.1 10.0.0.1 ::1 :: fe80::1 2001::1 2001:0:808:808:: ff02::1 64:ff9b:1::1 64:ff9b:1::808:808 fe80::5efe:808:808 nil"},
		{"+::/0", true, "127.0.0.1 ::ffff:127.0.0.1 ::127.0.0.1 ::1 :: fe80::1 2001:0:808:808:: ff02::1 64:ff9b::7f00:1", "", "nil"},
		// Teredo, which the table denies by itself: its server, and its client turned over.
		{all + " +2001::/32", false, "2001:0:808:808::f7f7:f7f7", "2001:0:7f00:1::f7f7:f7f7 2001:0:808:808::80ff:fffe 2001:0:7f00:1::80ff:fffe 2001:0:808:808::ffff:ffff", "2001:1:808:808::f7f7:f7f7"},
		// Two forms at once.
		{all, false, "2002:808:808::5efe:808:808", "2002:7f00:1::5efe:808:808 2002:808:808::5efe:7f00:1", "2001:0:808:808:0:5efe:f7f7:f7f7"},
		// Within the table's ranges, the same ones, and around them.
		{"+10.1.0.0/16", false, "10.1.0.0 10.1.255.255 ::ffff:10.1.2.3", "", "10.0.255.255 10.2.0.0 8.8.8.8 ::10.1.2.3"},
		{"+10.0.0.0/8", false, "10.0.0.0 10.1.2.3 10.255.255.255", "", "9.255.255.255 11.0.0.0"},
		{"+10.0.0.0/7", false, "11.0.0.0 11.255.255.255", "", "10.0.0.0 10.255.255.255 12.0.0.0"},
		{"+::1/128 +127.0.0.1/32", false, "::1 127.0.0.1 ::ffff:127.0.0.1", "", ":: ::2 127.0.0.0 127.0.0.2"},
		// Of the same prefix the last one counts, wherever it stands; the longest one counts, whatever stands behind it.
		{"+8.0.0.0/8 -8.0.0.0/8", false, "", "", "8.8.8.8"},
		{"-8.0.0.0/8 +8.0.0.0/8", false, "8.8.8.8", "", ""},
		{"+8.0.0.0/8 -8.0.0.0/8 +8.0.0.0/8 -8.8.0.0/16", false, "8.7.255.255 8.9.0.0", "", "8.8.0.0 8.8.255.255"},
		{"-8.8.0.0/16 +8.0.0.0/8", false, "8.7.255.255 8.9.0.0", "", "8.8.0.0 8.8.255.255"},
		{"+8.8.8.8/32 -8.8.8.0/24 +8.8.0.0/16 -8.0.0.0/8", true, "8.8.8.8 8.8.7.1", "", "8.8.8.7 8.8.8.9 8.9.0.0 7.0.0.0"},
		{"+10.0.0.0/8 -10.0.0.0/8", false, "", "", "10.1.2.3"},
		// What is embedded is allowed, but not what embeds it.
		{all + " -2002::/16 -64:ff9b::/96 -::/96", false, "8.8.8.8 2003::1", "", "2002:808:808:: 64:ff9b::808:808 ::8.8.8.8"},
		// Of what is embedded no rule speaks.
		{"+2002::/16", true, "", "2002:808:808::", "8.8.8.8"},
		{"+2002::/16 +8.8.8.8/32", true, "2002:808:808::", "2002:808:809::", ""},
	} {
		p := policy.Policy{Rules: rules(t, c.rules), Bare: c.bare}
		g := build(t, p)
		for _, group := range []struct {
			texts          string
			verdict, allow bool
		}{{c.allowed, true, true}, {c.embedded, true, false}, {c.denied, false, false}} {
			for _, a := range readAddrs(t, group.texts) {
				if got := g.Verdict(a); got != group.verdict || verdict(p, a) != group.verdict {
					t.Errorf("%q, bare %v: Verdict(%v) = %v", c.rules, c.bare, addr.Texts(a), got)
				}
				if got := g.Allows(a); got != group.allow {
					t.Errorf("%q, bare %v: Allows(%v) = %v", c.rules, c.bare, addr.Texts(a), got)
				}
			}
		}
	}
}

// P10.2: at the ends of the table's ranges, where all else is allowed.
func TestTheTableIsDenied(t *testing.T) {
	all := rules(t, "+::/0")
	g, bare := build(t, policy.Policy{Rules: all}), build(t, policy.Policy{Rules: all, Bare: true})
	for _, row := range special.Rows() {
		first := six.Addr{Hi: row.Prefix.Hi, Lo: row.Prefix.Lo}
		if g.Verdict(first) || g.Allows(first) {
			t.Errorf("%s is allowed", first.Text())
		}
		if !bare.Verdict(first) || !bare.Allows(first) {
			t.Errorf("%s is denied by a bare policy", first.Text())
		}
	}
}

// P10.2, P10.4: by chance, against a model.
func TestGatesAgainstAModel(t *testing.T) {
	next := chance()
	addresses := readAddrs(t, "8.8.8.8 8.8.8.9 9.8.8.8 10.0.0.1 127.0.0.1 ::ffff:8.8.8.8 ::8.8.8.8 64:ff9b::808:808 64:ff9b::a00:1 2002:808:808:: 2002:a00:1::5efe:808:808 2001:0:808:808::f7f7:f7f6 1::5efe:808:809 1::200:5efe:a00:1 :: ::1 ::2 fe80::1")
	allowed, embedded := 0, 0
	for range 2000 {
		p := policy.Policy{Bare: next(2) == 0}
		for range next(12) {
			q, _ := prefix.Of(addresses[next(len(addresses))], []int{0, 1, 16, 32, 64, 96, 97, 104, 120, 127, 128}[next(11)])
			p.Rules = append(p.Rules, policy.Rule{Prefix: q, Allow: next(3) > 0})
		}
		g := build(t, p)
		for _, a := range addresses {
			outer, wanted := verdict(p, a), verdict(p, a)
			for _, inner := range addr.Inner(a) {
				wanted = wanted && verdict(p, inner)
				if g.Allows(a) && !g.Allows(inner) {
					t.Fatalf("%v: %s is allowed, but embeds %s", p, a.Text(), inner.Text())
				}
			}
			if g.Verdict(a) != outer || g.Allows(a) != wanted {
				t.Fatalf("%v: Verdict(%s) = %v, want %v; Allows = %v, want %v", p, a.Text(), g.Verdict(a), outer, g.Allows(a), wanted)
			}
			if wanted {
				allowed++
			} else if outer {
				embedded++
			}
		}
	}
	if allowed < 1000 || embedded < 1000 {
		t.Errorf("%d allowed, %d by themselves alone: too few to tell", allowed, embedded)
	}
}

// P10.2
func TestPort(t *testing.T) {
	g := build(t, policy.Policy{Ports: []int{443, 1, 65535, 443}})
	for n, wanted := range map[int]bool{443: true, 1: true, 65535: true, 0: false, 2: false, 80: false, 444: false, -1: false, -443: false, 65534: false, 65536: false, 65536 + 443: false, math.MaxInt: false, math.MinInt: false} {
		if got := g.Port(n); got != wanted {
			t.Errorf("Port(%d) = %v", n, got)
		}
	}
	for _, n := range []int{0, 80, 443} {
		if build(t, policy.Policy{}).Port(n) {
			t.Errorf("Port(%d) of a policy without ports", n)
		}
	}
	full := policy.Policy{}
	for i := range 16 {
		full.Ports = append(full.Ports, 1000+i)
	}
	gate := build(t, full)
	for i := range 16 {
		if !gate.Port(1000 + i) {
			t.Errorf("Port(%d) isn't", 1000+i)
		}
	}
}

// P10.2
func TestDenied(t *testing.T) {
	g := build(t, policy.Policy{Rules: rules(t, "+0.0.0.0/0 +64:ff9b::/96")})
	for _, c := range []struct{ asked, wanted string }{
		{"", ""},
		{"8.8.8.8", ""},
		{"10.0.0.1", "10.0.0.1"},
		{"8.8.8.8 10.0.0.1", "10.0.0.1"},
		{"nil", "nil"},
		{"127.0.0.1 8.8.8.8 nil 1.1.1.1 10.0.0.1 127.0.0.1 ::1 nil", "127.0.0.1 nil 10.0.0.1 127.0.0.1 ::1 nil"},
		{"::ffff:127.0.0.1 64:ff9b::7f00:1 64:ff9b::808:808 ::ffff:8.8.8.8", "::ffff:127.0.0.1 64:ff9b::7f00:1"},
	} {
		if got, wanted := g.Denied(readAddrs(t, c.asked)...), readAddrs(t, c.wanted); !slices.Equal(got, wanted) {
			t.Errorf("Denied(%s) = %v", c.asked, addr.Texts(got...))
		}
	}
	if got := g.Denied(); len(got) != 0 {
		t.Errorf("Denied() = %v", got)
	}
}

// P10.2: what is told is nobody else's, and what was asked stays.
func TestDeniedIsNewMemory(t *testing.T) {
	var none *policy.Gate
	for _, g := range []*policy.Gate{none, build(t, policy.Policy{})} {
		list := readAddrs(t, "10.0.0.1 ::1 8.8.8.8 1.1.1.1")
		got := g.Denied(list[:3]...)
		if len(got) != 3 {
			t.Fatalf("Denied = %v", got)
		}
		got[0], got[1] = nil, nil
		_ = append(got, six.Addr{Lo: 9})
		if wanted := readAddrs(t, "10.0.0.1 ::1 8.8.8.8 1.1.1.1"); !slices.Equal(list, wanted) {
			t.Errorf("the list is %v", addr.Texts(list...))
		}
	}
}

// P10.2
func TestANilGate(t *testing.T) {
	var g *policy.Gate
	list := readAddrs(t, "8.8.8.8 nil ::1 2606:4700::1 8.8.8.8")
	for _, a := range list {
		if g.Verdict(a) || g.Allows(a) {
			t.Errorf("a nil gate allows %v", addr.Texts(a))
		}
	}
	for _, n := range []int{0, 1, 80, 443, -1} {
		if g.Port(n) {
			t.Errorf("a nil gate has port %d", n)
		}
	}
	if got := g.Denied(list...); !slices.Equal(got, list) {
		t.Errorf("a nil gate denies %v", addr.Texts(got...))
	}
	if got := g.Denied(); len(got) != 0 {
		t.Errorf("a nil gate denies %v of none", got)
	}
}

// P10.1: a gate stays as it was built, and a policy as it was handed in; no two gates share anything.
func TestAGateKeepsNothingOfThePolicy(t *testing.T) {
	p := policy.Policy{Rules: rules(t, "+8.0.0.0/8 +9.0.0.0/8"), Ports: []int{80, 443, 8080}}
	before := policy.Policy{Rules: slices.Clone(p.Rules), Ports: slices.Clone(p.Ports)}
	handed := policy.Policy{Rules: p.Rules[:1], Ports: p.Ports[:2]}
	g := build(t, handed)
	if !same(p, before) {
		t.Errorf("the policy is %v, was %v", p, before)
	}
	p.Rules[0].Allow, p.Ports[0], p.Ports[1] = false, 1, 2
	if !g.Allows(four.Of(8, 8, 8, 8)) || !g.Port(80) || !g.Port(443) || g.Port(1) {
		t.Error("a gate changes with the policy that it was built of")
	}
	other := build(t, policy.Policy{Rules: rules(t, "-8.0.0.0/8")})
	if other.Allows(four.Of(8, 8, 8, 8)) || !g.Allows(four.Of(8, 8, 8, 8)) {
		t.Error("two gates are one")
	}
}

// P10.3: each text with what Print tells of what it is; a number of a line, where it isn't so.
func TestParse(t *testing.T) {
	for _, c := range []struct {
		text, wanted string
		line         int
	}{
		{"", "", 0},
		{"\n", "", 0},
		{"\n\n\n", "", 0},
		{" ", "", 0},
		{"   \n  ", "", 0},
		{"#", "", 0},
		{"# bare\n#bare\n  # allow x\n#\n##\n", "", 0},
		{"bare", "bare\n", 0},
		{"bare\n", "bare\n", 0},
		{"  bare   \n", "bare\n", 0},
		{"bare\nbare", "bare\n", 0},
		{"port 80\nbare\ndeny ::/0\nport 1\nallow 10.0.0.0/8", "bare\ndeny ::/0\nallow 10.0.0.0/8\nport 80\nport 1\n", 0},
		{"allow 0.0.0.0/0\n# x\nport 443", "allow 0.0.0.0/0\nport 443\n", 0},
		{"\n\n   allow    1.2.3.4/32   \n\n  #\n deny  ::ffff:1.2.3.4/128 \n", "allow 1.2.3.4/32\ndeny 1.2.3.4/32\n", 0},
		{"allow 10.0.0.0/8\nallow 10.0.0.0/8\n", "allow 10.0.0.0/8\nallow 10.0.0.0/8\n", 0},
		{"deny 2001:DB8:0::/32", "deny 2001:db8::/32\n", 0},
		{"port 0\nport 65536\nport 9223372036854775807\n", "port 0\nport 65536\nport 9223372036854775807\n", 0},
		{"port 80\nport 80", "port 80\nport 80\n", 0},
		{"# \xFF\n#\x00", "", 0},

		{"port 9223372036854775808", "", 1},
		{"port 18446744073709551617", "", 1},
		{"port 99999999999999999999999", "", 1},
		{"bare\nport 080", "", 2},
		{"port 00", "", 1},
		{"port -1", "", 1},
		{"port +1", "", 1},
		{"port 0x50", "", 1},
		{"port 8_0", "", 1},
		{"port", "", 1},
		{"port 80 443", "", 1},
		{"port 80 #", "", 1},
		{"port 80#", "", 1},
		{"port #80", "", 1},
		{"port80", "", 1},
		{"Port 80", "", 1},
		{"80", "", 1},
		{"bare x", "", 1},
		{"bare #", "", 1},
		{"bare#", "", 1},
		{"Bare", "", 1},
		{"bar", "", 1},
		{"bares", "", 1},
		{"\nbare bare", "", 2},
		{"allow", "", 1},
		{"deny", "", 1},
		{"allow deny", "", 1},
		{"allow 10.0.0.0/8 10.0.0.0/8", "", 1},
		{"deny 10.0.0.0/8 # x", "", 1},
		{"allow 10.0.0.1/8", "", 1},
		{"allow 10.0.0.0", "", 1},
		{"allow 10.0.0.0/", "", 1},
		{"allow 10.0.0.0/33", "", 1},
		{"allow 10.0.0.0/08", "", 1},
		{"allow 10.0.0.0 /8", "", 1},
		{"allow 0xa.0.0.0/8", "", 1},
		{"allow 10/8", "", 1},
		{"allow ::/129", "", 1},
		{"allow [::]/0", "", 1},
		{"ALLOW ::/0", "", 1},
		{"allows ::/0", "", 1},
		{"permit ::/0", "", 1},
		{"::/0", "", 1},
		{"::/0 allow", "", 1},
		// No other sign is a blank, none else ends a line.
		{"bare\r\n", "", 1},
		{"\r", "", 1},
		{"port\t80", "", 1},
		{"port 80\t", "", 1},
		{"\tbare", "", 1},
		{"\t", "", 1},
		{"\t# x", "", 1},
		{"port\u00A080", "", 1},
		{"\u3000", "", 1},
		{"port 80\x00", "", 1},
		{"port 8\u0660", "", 1},
		{"\xFF", "", 1},
		{"bare\v", "", 1},
		{"bare\fbare", "", 1},
		// The first line that isn't so; all lines count for its number.
		{"# a\n\n  \nbare\nport x\nport y", "", 5},
		{"port 1\nport 2\nx", "", 3},
		{"x\nbare\n", "", 1},
		{"allow ::/0\n\n\n\n\n\n\n\n\nallow ::1/0\n", "", 10},
	} {
		p, line, e := policy.Parse(c.text)
		if c.line != 0 {
			if line != c.line || e != api.ErrForm || p.Rules != nil || p.Ports != nil || p.Bare {
				t.Errorf("Parse(%q) = %v, %d, %d, want line %d", c.text, p, line, e, c.line)
			}
			continue
		}
		if got := p.Print(); got != c.wanted || line != 0 || e != api.OK {
			t.Errorf("Parse(%q) = %q, %d, %d, want %q", c.text, got, line, e, c.wanted)
		}
	}
}

// P10.3: the policy itself, not only as it is printed.
func TestParseTellsThePolicy(t *testing.T) {
	p, _, _ := policy.Parse("deny 10.0.0.0/8\nport 8080\nallow 2001:db8::/32\nport 1")
	wanted := policy.Policy{
		Rules: []policy.Rule{
			{Prefix: prefix.Prefix{Lo: 0xFFFF_0A00_0000, Len: 104}},
			{Prefix: prefix.Prefix{Hi: 0x2001_0DB8_0000_0000, Len: 32}, Allow: true},
		},
		Ports: []int{8080, 1},
	}
	if !same(p, wanted) {
		t.Errorf("Parse = %v, want %v", p, wanted)
	}
	if p, _, _ := policy.Parse("bare"); !same(p, policy.Policy{Bare: true}) {
		t.Errorf("Parse(bare) = %v", p)
	}
	if p, _, _ := policy.Parse("port 9223372036854775807"); !same(p, policy.Policy{Ports: []int{math.MaxInt64}}) {
		t.Errorf("Parse of the greatest port = %v", p)
	}
}

// P10.3: whether it may be or not.
func TestParseOfPoliciesThatMayNotBe(t *testing.T) {
	for text, wanted := range map[string]api.Errno{
		strings.Repeat("allow ::/0\n", 256):          api.OK,
		strings.Repeat("allow ::/0\n", 257):          api.ErrMany,
		strings.Repeat("port 1\n", 16):               api.OK,
		strings.Repeat("port 1\n", 17):               api.ErrMany,
		strings.Repeat("bare\n#\n\n", 300):           api.OK,
		"port 0":                                     api.ErrPort,
		"port 65535":                                 api.OK,
		"port 65536":                                 api.ErrPort,
		"allow ::/0\nport 9223372036854775807\nbare": api.ErrPort,
		strings.Repeat("deny 1.2.3.4/32\n", 300):     api.ErrMany,
	} {
		p, line, e := policy.Parse(text)
		if line != 0 || e != api.OK || len(p.Rules) != strings.Count(text, "/") || len(p.Ports) != strings.Count(text, "port") {
			t.Errorf("Parse(%.20q) = %d rules, %d ports, %d, %d", text, len(p.Rules), len(p.Ports), line, e)
		}
		if got := p.Check(); got != wanted {
			t.Errorf("Check of %.20q = %d, want %d", text, got, wanted)
		}
	}
}

// parse is what Parse has to be, by other means.
func parse(text string) (string, int) {
	var bare, rules, ports string
	for i, line := range strings.Split(text, "\n") {
		words := slices.DeleteFunc(strings.Split(line, " "), func(s string) bool { return s == "" })
		joined := strings.Join(words, " ")
		word, value, _ := strings.Cut(joined, " ")
		p, isPrefix := prefix.Parse(value)
		n, err := strconv.ParseInt(value, 10, 64)
		switch {
		case joined == "" || joined[0] == '#':
		case joined == "bare":
			bare = "bare\n"
		case (word == "allow" || word == "deny") && isPrefix:
			rules += word + " " + p.Text() + "\n"
		case word == "port" && err == nil && n >= 0 && strconv.FormatInt(n, 10) == value:
			ports += joined + "\n"
		default:
			return "", i + 1
		}
	}
	return bare + rules + ports, 0
}

// P10.3: by chance, against a model.
func TestParseAgainstAModel(t *testing.T) {
	next := chance()
	words := []string{"bare", "allow", "deny", "port", "10.0.0.0/8", "::/0", "::1/128", "80", "0", "080", "9223372036854775807", "9223372036854775808", "#", "#bare", "x", "\t", "\xFF", "\r"}
	lines := []string{"bare", "allow 10.0.0.0/8", "deny ::/0", "port 80", "port 0", "# x y", "", "  ", " deny  ::1/128 "}
	right, wrong := 0, 0
	for range 20000 {
		var text strings.Builder
		for range next(6) {
			if next(4) > 0 {
				text.WriteString(lines[next(len(lines))])
			}
			for range next(3) * next(2) * next(2) {
				text.WriteString(strings.Repeat(" ", next(3)) + words[next(len(words))])
			}
			text.WriteString([]string{"\n", "\n", "\n", "\n\n", " \n", " "}[next(6)])
		}
		p, line, e := policy.Parse(text.String())
		wanted, at := parse(text.String())
		if got := p.Print(); got != wanted || line != at || (e == api.OK) != (at == 0) || e != api.OK && e != api.ErrForm {
			t.Fatalf("Parse(%q) = %q, %d, %d, want %q, %d", text.String(), got, line, e, wanted, at)
		}
		if at == 0 {
			right++
		} else {
			wrong++
		}
	}
	if right < 2000 || wrong < 2000 {
		t.Errorf("%d right, %d wrong: too few to tell", right, wrong)
	}
}

// P10.3
func TestPrint(t *testing.T) {
	for _, c := range []struct {
		p      policy.Policy
		wanted string
	}{
		{policy.Policy{}, ""},
		{policy.Policy{Rules: []policy.Rule{}, Ports: []int{}}, ""},
		{policy.Policy{Bare: true}, "bare\n"},
		{policy.Policy{Ports: []int{443, 80}}, "port 443\nport 80\n"},
		{policy.Policy{Rules: rules(t, "-::/0 +1.2.3.0/24 -1.2.3.4/32 +::/0 +2001:db8::/32")}, "deny ::/0\nallow 1.2.3.0/24\ndeny 1.2.3.4/32\nallow ::/0\nallow 2001:db8::/32\n"},
		{policy.Policy{Rules: rules(t, "+::ffff:0:0/96 -::fffe:0:0/95"), Ports: []int{1}, Bare: true}, "bare\nallow 0.0.0.0/0\ndeny ::fffe:0:0/95\nport 1\n"},
		// Those that may not be are printed, too.
		{policy.Policy{Ports: []int{0, -1, 65536, math.MinInt64, math.MaxInt64}}, "port 0\nport -1\nport 65536\nport -9223372036854775808\nport 9223372036854775807\n"},
		{policy.Policy{Rules: []policy.Rule{{Prefix: prefix.Prefix{Lo: 1, Len: 3}, Allow: true}, {Prefix: prefix.Prefix{Len: 129}}}}, "allow ::1/3\ndeny ::/129\n"},
		{policy.Policy{Rules: many(300, policy.Rule{}), Ports: many(20, 7)}, strings.Repeat("deny ::/0\n", 300) + strings.Repeat("port 7\n", 20)},
	} {
		if got := c.p.Print(); got != c.wanted {
			t.Errorf("Print of %v = %q, want %q", c.p, got, c.wanted)
		}
	}
}

// P10.4
func TestParseOfPrintIsIt(t *testing.T) {
	next := chance()
	for range 2000 {
		p := policy.Policy{Bare: next(2) == 0}
		for range next(8) {
			a := six.Addr{Hi: uint64(next(1<<31)) << next(64), Lo: uint64(next(1<<31)) << next(64)}
			if next(2) == 0 {
				a = six.Addr{Lo: 0xFFFF_0000_0000 | uint64(next(1<<31))<<1}
			}
			q, _ := prefix.Of(a, next(129))
			p.Rules = append(p.Rules, policy.Rule{Prefix: q, Allow: next(2) == 0})
		}
		for range next(5) {
			p.Ports = append(p.Ports, 1+next(65535))
		}
		if e := p.Check(); e != api.OK {
			t.Fatalf("Check of %v = %d", p, e)
		}
		got, line, e := policy.Parse(p.Print())
		if !same(got, p) || line != 0 || e != api.OK {
			t.Fatalf("Parse(%q) = %v, %d, %d, want %v", p.Print(), got, line, e, p)
		}
	}
	full := policy.Policy{Rules: many(256, policy.Rule{Prefix: readPrefix(t, "255.255.255.255/32"), Allow: true}), Ports: many(16, 65535), Bare: true}
	if got, _, e := policy.Parse(full.Print()); !same(got, full) || e != api.OK {
		t.Errorf("the fullest one isn't told: %d", e)
	}
}

// The chapter's example.
func TestExample(t *testing.T) {
	p, _, _ := policy.Parse("allow 0.0.0.0/0\nport 443\n")
	g := build(t, p)
	if !g.Allows(four.Of(8, 8, 8, 8)) || g.Allows(four.Of(127, 0, 0, 1)) || g.Allows(readAddr(t, "::ffff:127.0.0.1")) || !g.Port(443) || g.Port(80) {
		t.Error("the example isn't so")
	}
}

// P1
func TestNoneOfTheCallsPanics(t *testing.T) {
	var none *policy.Gate
	empty, _ := policy.Build(policy.Policy{Bare: true})
	for _, g := range []*policy.Gate{none, empty} {
		for _, a := range []addr.Addr{nil, four.Addr(0), four.Addr(math.MaxUint32), six.Addr{}, six.Addr{Hi: math.MaxUint64, Lo: math.MaxUint64}} {
			g.Verdict(a)
			g.Allows(a)
			g.Denied(a, nil, a)
		}
		g.Port(math.MinInt)
	}
	for b := range 256 {
		sign := string([]byte{byte(b)})
		for _, text := range []string{sign, "allow" + sign, "allow " + sign, sign + "bare", "port " + sign, "port 1" + sign + "2", sign + sign + sign} {
			policy.Parse(text)
		}
	}
	policy.Parse(strings.Repeat("a ", 100000))
	policy.Parse(strings.Repeat("\n", 100000) + "x")
}
