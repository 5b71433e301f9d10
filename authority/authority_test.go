package authority_test

import (
	"math"
	"math/big"
	"slices"
	"strconv"
	"strings"
	"testing"

	"mantrap/abnf"
	"mantrap/api"
	"mantrap/authority"
	"mantrap/domain"
	"mantrap/four"
	"mantrap/host"
	"mantrap/six"
	"mantrap/url"
	"mantrap/whatwg"
)

// checkStrict holds Strict against what is wanted.
func checkStrict(t *testing.T, p abnf.Parts, want authority.Site, wantedError api.Errno) {
	t.Helper()
	if got, e := authority.Strict(p); got != want || e != wantedError {
		t.Errorf("Strict(%.300q) = %+v, %d, want %+v, %d", p.Text(), got, e, want, wantedError)
	}
}

// chance tells a source of numbers that look like chance, the same ones at each run.
func chance() func(below int) int {
	state := uint64(1)
	return func(below int) int {
		state = state*6364136223846793005 + 1442695040888963407
		return int((state >> 33) % uint64(below))
	}
}

// P18.1: sites of texts, as the strict grammar reads them.
func TestStrictOfTexts(t *testing.T) {
	for text, want := range map[string]authority.Site{
		// What the chapter names.
		"HTTP://A.b:": {Scheme: "http", Host: domain.Name("a.b"), Port: 80},
		// The port is the scheme's own, where there is none, and where it is empty.
		"http://a": {Scheme: "http", Host: domain.Name("a"), Port: 80}, "https://a": {Scheme: "https", Host: domain.Name("a"), Port: 443}, "https://a:": {Scheme: "https", Host: domain.Name("a"), Port: 443}, "hTTpS://a:/": {Scheme: "https", Host: domain.Name("a"), Port: 443}, "http://a:443": {Scheme: "http", Host: domain.Name("a"), Port: 443}, "https://a:80": {Scheme: "https", Host: domain.Name("a"), Port: 80}, "http://a:80": {Scheme: "http", Host: domain.Name("a"), Port: 80},
		"http://a:0": {Scheme: "http", Host: domain.Name("a"), Port: 0}, "http://a:00000": {Scheme: "http", Host: domain.Name("a"), Port: 0}, "http://a:08080": {Scheme: "http", Host: domain.Name("a"), Port: 8080}, "http://a:65535": {Scheme: "http", Host: domain.Name("a"), Port: 65535}, "http://a:" + strings.Repeat("0", 4000) + "9": {Scheme: "http", Host: domain.Name("a"), Port: 9},
		// Somebody's name, be it empty.
		"http://u@a": {Scheme: "http", Host: domain.Name("a"), Port: 80, User: true}, "http://u:p@a:8": {Scheme: "http", Host: domain.Name("a"), Port: 8, User: true}, "http://@a": {Scheme: "http", Host: domain.Name("a"), Port: 80, User: true}, "http://:@a": {Scheme: "http", Host: domain.Name("a"), Port: 80, User: true}, "http://a/u@b": {Scheme: "http", Host: domain.Name("a"), Port: 80}, "http://a?u@b": {Scheme: "http", Host: domain.Name("a"), Port: 80},
		// Hosts of each sort.
		"http://A.B.": {Scheme: "http", Host: domain.Name("a.b."), Port: 80}, "http://0X7F.1": {Scheme: "http", Host: four.Of(127, 0, 0, 1), Port: 80}, "http://%31%32%37.0.0.1": {Scheme: "http", Host: four.Of(127, 0, 0, 1), Port: 80}, "http://[::FFFF:7f00:1]:8": {Scheme: "http", Host: six.Addr{Lo: 0xFFFF_7F00_0001}, Port: 8}, "http://[::1.2.3.4]": {Scheme: "http", Host: six.Addr{Lo: 0x0102_0304}, Port: 80}, "http://%41": {Scheme: "http", Host: domain.Name("a"), Port: 80},
		// What stands behind it counts for nothing.
		"http://a/b/../c?d#e": {Scheme: "http", Host: domain.Name("a"), Port: 80}, "https://a:8?b:9": {Scheme: "https", Host: domain.Name("a"), Port: 8},
	} {
		p, e := abnf.Parse(text)
		if e != api.OK {
			t.Errorf("Parse(%.80q) = %d", text, e)
		}
		checkStrict(t, p, want, api.OK)
	}
	for text, e := range map[string]api.Errno{
		"": api.ErrScheme, "a": api.ErrScheme, "//a": api.ErrScheme, "//a:80/": api.ErrScheme, "ftp://a": api.ErrScheme, "ws://a": api.ErrScheme, "httpss://a": api.ErrScheme, "htt://a": api.ErrScheme, "h://a": api.ErrScheme, "http.://a": api.ErrScheme, "file:///a": api.ErrScheme, "mailto:a": api.ErrScheme,
		"http:": api.ErrHost, "http:a": api.ErrHost, "https:/a": api.ErrHost, "HTTP:?//a": api.ErrHost, "http:#//a": api.ErrHost,
		"http://": api.ErrHost, "http:///a": api.ErrHost, "http://:80": api.ErrHost, "http://u@": api.ErrHost, "http://a..b": api.ErrHost, "http://.": api.ErrHost, "http://1.2.3.4.5": api.ErrHost, "http://a.1": api.ErrHost, "http://256.256.256.256": api.ErrHost, "http://[v1.a]": api.ErrHost, "http://a%20b": api.ErrHost, "http://%5B%3A%3A1%5D": api.ErrHost,
		"http://xn--a": api.ErrIDN, "http://XN--A.b": api.ErrIDN, "http://%FF": api.ErrIDN, "http://%c3%a9": api.ErrIDN, "http://a.xn--b:8": api.ErrIDN,
		"http://a:65536": api.ErrPort, "http://a:99999": api.ErrPort, "http://a:065536": api.ErrPort, "http://a:18446744073709551616": api.ErrPort, "http://a:18446744073709551696": api.ErrPort, "http://a:4294967376": api.ErrPort, "http://a:65616": api.ErrPort, "http://a:" + strings.Repeat("9", 4000): api.ErrPort,
	} {
		p, of := abnf.Parse(text)
		if of != api.OK {
			t.Errorf("Parse(%.80q) = %d", text, of)
		}
		checkStrict(t, p, authority.Site{}, e)
	}
}

type scheme struct {
	text  string
	has   bool
	small string // empty: it is none that may be asked
}

func schemes() []scheme {
	return []scheme{
		{"http", true, "http"}, {"https", true, "https"}, {"HTTP", true, "http"}, {"HttpS", true, "https"}, {"hTTp", true, "http"},
		{"", false, ""}, {"http", false, ""}, {"HTTPS", false, ""}, {"", true, ""}, {"ftp", true, ""}, {"http:", true, ""}, {"httpss", true, ""}, {" http", true, ""}, {"http\x00", true, ""}, {"http\u017F", true, ""}, {"HTTP\u017F", true, ""}, {"\xFF", true, ""},
	}
}

type name struct {
	text string
	host host.Host
	e    api.Errno
}

func names() []name {
	return []name{
		{"a.b", domain.Name("a.b"), api.OK}, {"A.B.", domain.Name("a.b."), api.OK}, {"%61", domain.Name("a"), api.OK}, {"127.1", four.Of(127, 0, 0, 1), api.OK}, {"017700000001", four.Of(127, 0, 0, 1), api.OK}, {"[::1]", six.Addr{Lo: 1}, api.OK}, {"[::]", six.Addr{}, api.OK}, {"0", four.Addr(0), api.OK},
		{"", nil, api.ErrHost}, {".", nil, api.ErrHost}, {"a b", nil, api.ErrHost}, {"a:b", nil, api.ErrHost}, {"[::1", nil, api.ErrHost}, {"::1", nil, api.ErrHost}, {"[1.2.3.4]", nil, api.ErrHost}, {"1.2.3.4.5", nil, api.ErrHost}, {"a/b", nil, api.ErrHost}, {"u@a", nil, api.ErrHost}, {strings.Repeat("a", 64), nil, api.ErrHost}, {strings.Repeat("a.", 127) + "a", nil, api.ErrHost},
		{"\xFF", nil, api.ErrIDN}, {"\u00E9", nil, api.ErrIDN}, {"xn--a", nil, api.ErrIDN}, {"a%80", nil, api.ErrIDN},
	}
}

type port struct {
	text   string
	has    bool
	number int // -1: the scheme's own; -2: none that may be
}

func ports() []port {
	noughts := strings.Repeat("0", 70000)
	return []port{
		{"", false, -1}, {"", true, -1}, {"8", false, -1}, {"x", false, -1}, {"65536", false, -1},
		{"0", true, 0}, {"1", true, 1}, {"80", true, 80}, {"443", true, 443}, {"0080", true, 80}, {"8080", true, 8080}, {"65534", true, 65534}, {"65535", true, 65535}, {noughts, true, 0}, {noughts + "65535", true, 65535},
		{"65536", true, -2}, {noughts + "65536", true, -2}, {"65537", true, -2}, {"100000", true, -2}, {"655350", true, -2}, {"4294967296", true, -2}, {"18446744073709551616", true, -2}, {"9223372036854775808", true, -2}, {"340282366920938463463374607431768211536", true, -2}, {strings.Repeat("1", 70000), true, -2},
		{"x", true, -2}, {"8x", true, -2}, {"x8", true, -2}, {"-1", true, -2}, {"+8", true, -2}, {" 8", true, -2}, {"8 ", true, -2}, {"8\n", true, -2}, {"0x50", true, -2}, {"8_0", true, -2}, {"8.0", true, -2}, {"8:0", true, -2}, {"1e3", true, -2}, {"\x00", true, -2}, {"8\x00", true, -2}, {"/", true, -2}, {":", true, -2}, {"a", true, -2}, {"f", true, -2}, {"%38", true, -2},
		{"\u0661", true, -2}, {"\uFF18\uFF10", true, -2}, {"8\u00B2", true, -2}, {"\U0001D7D8", true, -2}, {"\xFF", true, -2}, {"8\xC3", true, -2}, {"\u0968", true, -2}, {"65536x", true, -2}, {"99999999999999999999x", true, -2},
	}
}

// P18.1: each part with each one of the others, the faults in their order.
func TestStrictOfAllParts(t *testing.T) {
	own := map[string]int{"http": 80, "https": 443}
	for _, s := range schemes() {
		for _, n := range names() {
			for i, o := range ports() {
				for _, has := range []bool{true, false} {
					// All that may stand there beside it tells nothing.
					user := []string{"", "u", "u:p", "\xFF@"}[i%4]
					p := abnf.Parts{Scheme: s.text, HasScheme: s.has, User: user, HasUser: i/4%2 == 0, Host: n.text, HasAuthority: has, Port: o.text, HasPort: o.has, Path: user, Query: "?", HasQuery: i%3 == 0, Fragment: "u@h:8"}
					want, e := authority.Site{}, api.OK
					switch {
					case s.small == "":
						e = api.ErrScheme
					case !has:
						e = api.ErrHost
					case n.e != api.OK:
						e = n.e
					case o.number == -2:
						e = api.ErrPort
					case o.number == -1:
						want = authority.Site{Scheme: s.small, Host: n.host, Port: own[s.small], User: p.HasUser}
					default:
						want = authority.Site{Scheme: s.small, Host: n.host, Port: o.number, User: p.HasUser}
					}
					checkStrict(t, p, want, e)
				}
			}
		}
	}
}

// P18.1: a User that is empty, that is there, that isn't.
func TestStrictOfUsers(t *testing.T) {
	for _, user := range []string{"", "u", ":", "u:p", "@", "\xFF"} {
		for _, has := range []bool{true, false} {
			p := abnf.Parts{Scheme: "http", HasScheme: true, User: user, HasUser: has, Host: "a", HasAuthority: true}
			checkStrict(t, p, authority.Site{Scheme: "http", Host: domain.Name("a"), Port: 80, User: has}, api.OK)
		}
	}
}

// P18.1: each number as a port, and texts of few signs, against numbers of any size.
func TestStrictOfManyPorts(t *testing.T) {
	hold := func(s string) {
		t.Helper()
		p := abnf.Parts{Scheme: "https", HasScheme: true, Host: "a", HasAuthority: true, Port: s, HasPort: true}
		want, e := authority.Site{Scheme: "https", Host: domain.Name("a"), Port: 443}, api.OK
		if s != "" {
			n, ok := new(big.Int).SetString(s, 10)
			if !ok || strings.Trim(s, "0123456789") != "" || n.Cmp(big.NewInt(65535)) > 0 {
				want, e = authority.Site{}, api.ErrPort
			} else {
				want.Port = int(n.Int64())
			}
		}
		checkStrict(t, p, want, e)
	}
	for n := range 140000 {
		hold(strconv.Itoa(n))
		if n%7 == 0 {
			hold("000" + strconv.Itoa(n))
		}
	}
	for c := range 256 {
		b := string([]byte{byte(c)})
		for _, around := range [][2]string{{"", ""}, {"8", ""}, {"", "8"}, {"6553", ""}, {"", "5535"}, {"0", "0"}, {"65", "35"}, {"6553", "5"}} {
			hold(around[0] + b + around[1])
		}
	}
	for bits := range 140 {
		n := new(big.Int).Lsh(big.NewInt(1), uint(bits))
		for _, more := range []int64{-1, 0, 1, 80, 443, 8080} {
			hold(new(big.Int).Add(n, big.NewInt(more)).String())
		}
	}
	next := chance()
	for range 100000 {
		s := make([]byte, next(8))
		for i := range s {
			s[i] = "0000123456789656553563-+ x\xB2"[next(27)]
		}
		hold(string(s))
	}
}

// hosts are hosts of each sort, none, and names that look like the others.
func hosts() map[string]host.Host {
	return map[string]host.Host{
		"": nil, "a.b": domain.Name("a.b"), "a.b.": domain.Name("a.b."), "A.b": domain.Name("A.b"), "127.0.0.1": four.Of(127, 0, 0, 1), "127.0.0.2": four.Of(127, 0, 0, 2), "0.0.0.0": four.Addr(0), "[::ffff:7f00:1]": six.Addr{Lo: 0xFFFF_7F00_0001}, "[1::]": six.Addr{Hi: 1 << 48}, "[::]": six.Addr{},
	}
}

// P18.1
func TestLoose(t *testing.T) {
	for scheme, own := range map[string]int{"http": 80, "https": 443, "ftp": 0, "": 0, "HTTP": 0} {
		for _, h := range hosts() {
			for _, port := range []int{-1, 0, 1, 80, 443, 8080, 65535, 65536, -2, math.MaxInt, math.MinInt} {
				for _, user := range []string{"", "u", "\xFF", ":"} {
					for _, pass := range []string{"", "p", "@"} {
						u := url.URL{Scheme: scheme, User: user, Pass: pass, Host: h, Port: port, Path: []string{"x", ""}, Query: "q", HasQuery: true, Fragment: "f", HasFragment: true}
						want := authority.Site{Scheme: scheme, Host: h, Port: port, User: user+pass != ""}
						if port == -1 {
							want.Port = own
						}
						if got := authority.Loose(u); got != want {
							t.Errorf("Loose(%+v) = %+v, want %+v", u, got, want)
						}
						u.Path, u.Query, u.HasQuery, u.Fragment, u.HasFragment = nil, "", false, "", false
						if got := authority.Loose(u); got != want {
							t.Errorf("Loose(%+v) = %+v, want %+v", u, got, want)
						}
					}
				}
			}
		}
	}
	if got := authority.Loose(url.URL{}); got != (authority.Site{}) {
		t.Errorf("Loose of the zero URL = %+v", got)
	}
}

// P18.2: each of the four, in all and in nothing.
func TestDiffer(t *testing.T) {
	a := authority.Site{Scheme: "http", Host: domain.Name("a"), Port: 80}
	b := authority.Site{Scheme: "https", Host: domain.Name("b"), Port: 443, User: true}
	for bits := range 16 {
		c, words := a, []string(nil)
		if bits&1 != 0 {
			c.Scheme, words = b.Scheme, append(words, "scheme")
		}
		if bits&2 != 0 {
			c.Host, words = b.Host, append(words, "host")
		}
		if bits&4 != 0 {
			c.Port, words = b.Port, append(words, "port")
		}
		if bits&8 != 0 {
			c.User, words = b.User, append(words, "user")
		}
		for _, got := range [][]string{authority.Differ(a, c), authority.Differ(c, a)} {
			if !slices.Equal(got, words) {
				t.Errorf("%+v and %+v differ in %q, want %q", a, c, got, words)
			}
		}
		if got := authority.Differ(c, c); len(got) != 0 {
			t.Errorf("%+v differs from itself in %q", c, got)
		}
	}
	// Schemes are held as they stand, ports as numbers.
	for _, c := range []struct{ a, b authority.Site }{
		{authority.Site{Scheme: "http"}, authority.Site{Scheme: "HTTP"}}, {authority.Site{Scheme: "http"}, authority.Site{}}, {authority.Site{Scheme: "a"}, authority.Site{Scheme: "b"}},
	} {
		if got := authority.Differ(c.a, c.b); !slices.Equal(got, []string{"scheme"}) {
			t.Errorf("%+v and %+v differ in %q", c.a, c.b, got)
		}
	}
	for _, c := range [][2]int{{0, -1}, {80, -80}, {0, 65536}, {math.MinInt, math.MaxInt}, {1, 1 << 32}} {
		if got := authority.Differ(authority.Site{Port: c[0]}, authority.Site{Port: c[1]}); !slices.Equal(got, []string{"port"}) {
			t.Errorf("the ports %d and %d differ in %q", c[0], c[1], got)
		}
	}
}

// P18.2: each host with each: they are the same, if they are of one sort, and the same there.
func TestDifferOfHosts(t *testing.T) {
	list := []host.Host{
		nil, domain.Name(""), domain.Name("a.b"), domain.Name("a.b."), domain.Name("A.b"), domain.Name("a.c"), domain.Name("127.0.0.1"), domain.Name("[::1]"), domain.Name("::1"), domain.Name("::ffff:7f00:1"), domain.Name("[::ffff:7f00:1]"), domain.Name("0.0.0.0"),
		four.Of(127, 0, 0, 1), four.Of(127, 0, 0, 2), four.Addr(0), four.Addr(1),
		six.Addr{}, six.Addr{Lo: 1}, six.Addr{Hi: 1}, six.Addr{Hi: 1, Lo: 1}, six.Addr{Lo: 0x7F00_0001}, six.Addr{Lo: 0xFFFF_7F00_0001},
	}
	for i, g := range list {
		for j, h := range list {
			var want []string
			if i != j {
				want = []string{"host"}
			}
			for _, site := range []authority.Site{{}, {Scheme: "http", Port: 80, User: true}} {
				a, b := site, site
				a.Host, b.Host = g, h
				if got := authority.Differ(a, b); !slices.Equal(got, want) {
					t.Errorf("%T %v and %T %v differ in %q, want %q", g, g, h, h, got, want)
				}
			}
		}
	}
}

// P18.2: what is told is new: nothing that was told ahead changes it, or is changed by it.
func TestDifferTellsNewMemory(t *testing.T) {
	a, b := authority.Site{Scheme: "http", Port: 80}, authority.Site{Scheme: "https", Port: 443}
	one, two := authority.Differ(a, b), authority.Differ(a, b)
	one[0], one[1] = "x", "y"
	one = append(one[:1], "z")
	if three := authority.Differ(a, b); !slices.Equal(two, []string{"scheme", "port"}) || !slices.Equal(three, two) {
		t.Errorf("beside %q stand %q and %q", one, two, three)
	}
}

// P18.2
func TestTextAndHeader(t *testing.T) {
	for scheme, own := range map[string]int{"http": 80, "https": 443, "ftp": 0, "": 0, "HTTP": 0} {
		for written, h := range hosts() {
			for port, digits := range map[int]string{0: "0", 1: "1", 80: "80", 443: "443", 8080: "8080", 65535: "65535", -1: "-1", 65536: "65536", math.MaxInt: "9223372036854775807", math.MinInt: "-9223372036854775808"} {
				for _, user := range []bool{true, false} {
					s := authority.Site{Scheme: scheme, Host: h, Port: port, User: user}
					if got, want := s.Text(), scheme+"://"+written+":"+digits; got != want {
						t.Errorf("Text of %+v = %q, want %q", s, got, want)
					}
					want := written
					if port != own {
						want += ":" + digits
					}
					if got := s.Header(); got != want {
						t.Errorf("Header of %+v = %q, want %q", s, got, want)
					}
				}
			}
		}
	}
	if s := (authority.Site{}); s.Text() != "://:0" || s.Header() != "" {
		t.Errorf("Text of the zero site = %q, Header %q", s.Text(), s.Header())
	}
}

// holdBoth holds both sites of what layer 14 reads against each other, and tells whether the strict grammar reads it.
func holdBoth(t *testing.T, text string, u url.URL) bool {
	t.Helper()
	p, e := abnf.Parse(u.Bare())
	if e != api.OK {
		return false
	}
	strict, e := authority.Strict(p)
	loose := authority.Loose(u)
	if e != api.OK || strict != loose || len(authority.Differ(strict, loose)) != 0 || strict.Text() != loose.Text() || strict.Header() != loose.Header() {
		t.Errorf("%q is written %q, and its sites are %+v, %d and %+v", text, u.Bare(), strict, e, loose)
	}
	return true
}

// P18.3
func TestBothSites(t *testing.T) {
	for text, want := range map[string]string{
		"http://a": "http://a:80", "HTTP:\\\\A.b:080/x/../y?q#f": "http://a.b:80", "https:a:80": "https://a:80", "http://0x7f.1/": "http://127.0.0.1:80", "http://017700000001:0": "http://127.0.0.1:0", "http://[::FFFF:127.0.0.1]:65535": "http://[::ffff:7f00:1]:65535", "https://%41%2eb.:": "https://a.b.:443", "https://a:0443": "https://a:443", "http://u@a": "http://a:80", "http://:p@a": "http://a:80", "http://u:p@q@a:1": "http://a:1", "http://@a": "http://a:80", "http://:@a": "http://a:80", "http:///a/b@c:d": "http://a:80", "http://a\\@b": "http://a:80", "http://a#@b": "http://a:80", "http://a?@b": "http://a:80", "http://a/b c": "http://a:80", "http://u :p@a": "http://a:80",
	} {
		u, e := whatwg.Absolute(text)
		if e != api.OK || !holdBoth(t, text, u) || authority.Loose(u).Text() != want {
			t.Errorf("%q: %+v, %d, of the site %q, want %q", text, u, e, authority.Loose(u).Text(), want)
		}
	}
}

// P18.3: many texts, alone and behind each other.
func TestBothSitesOfManyTexts(t *testing.T) {
	next := chance()
	pick := func(list string) string {
		words := strings.Split(list, " ")
		return words[next(len(words))]
	}
	text := func() string {
		s := pick("http: HTTPS: http:// https:// http:\\\\ https:/ // / \\\\ ") + pick("    u@ u:p@ :p@ @ :@ u:@ a@b@ %41@ u;v@ \u00E9@ u:p:q@ !$&'()*+,=@")
		s += pick("a a.b A.B. 0x7f.1 127.0.0.1 [::1] [::FFFF:1.2.3.4] %61 2130706433 a_b~ ! $&'()*+,;= a..b xn--a \u00E9 [v1.a] 1.2.3.4.5 0 %31%32%37.1")
		s += pick("    : :80 :443 :080 :0 :65535 :65536 :8080 :x :00000000000000000000443")
		for range next(4) {
			s += pick("/ \\ /b /.. /. /%2e /@ /: /u@h:8 // /%zz /\u00E9 / /[ /%41 ? ?q ?u@h # #f #u@h")
		}
		return s
	}
	read, user, sorts := 0, 0, map[string]int{}
	for range 200000 {
		s, more := text(), text()
		u, e := whatwg.Absolute(s)
		if e != api.OK {
			continue
		}
		holdBoth(t, s, u)
		if next(2) == 0 {
			if u, e = whatwg.Chain(s, more); e != api.OK {
				continue
			}
			s += " and " + more
		}
		if holdBoth(t, s, u) {
			read++
			site := authority.Loose(u)
			sorts[host.Kind(site.Host)]++
			if site.User {
				user++
			}
		}
	}
	if read < 50000 || user < 10000 || sorts["name"] < 10000 || sorts["four"] < 10000 || sorts["six"] < 5000 {
		t.Errorf("but %d of them are read, %d with somebody's name, of the sorts %v", read, user, sorts)
	}
}

// P1: no call panics, whatever it is given; beside an error stands the zero site.
func TestAnyBytes(t *testing.T) {
	const signs = "aZ0189::..[[]]%%xn--@/, \n\x00\x7F\xC3\xA9\xFF"
	next := chance()
	text := func() string {
		s := make([]byte, next(7))
		for i := range s {
			s[i] = signs[next(len(signs))]
		}
		return string(s)
	}
	told := 0
	for range 200000 {
		p := abnf.Parts{Scheme: []string{"http", "HTTPS", text()}[next(3)], HasScheme: next(8) > 0, User: text(), HasUser: next(2) == 0, Host: []string{"a.b", "[::1]", text()}[next(3)], HasAuthority: next(8) > 0, Port: text(), HasPort: next(2) == 0, Path: text()}
		s, e := authority.Strict(p)
		if (e == api.OK) != (s.Host != nil) || e != api.OK && s != (authority.Site{}) {
			t.Errorf("Strict(%+v) = %+v, %d", p, s, e)
		}
		if e == api.OK {
			told++
		}
		u := url.URL{Scheme: text(), User: text(), Pass: text(), Host: domain.Name(text()), Port: next(1000) - 500}
		l := authority.Loose(u)
		if got := authority.Differ(s, l); len(got) > 4 {
			t.Errorf("%+v and %+v differ in %q", s, l, got)
		}
		s.Text()
		s.Header()
		l.Text()
		l.Header()
	}
	if told < 20000 {
		t.Errorf("but %d of the parts have a site", told)
	}
}
