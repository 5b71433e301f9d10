package url_test

import (
	"math"
	"slices"
	"strings"
	"testing"

	"mantrap/domain"
	"mantrap/four"
	"mantrap/host"
	"mantrap/six"
	"mantrap/url"
)

// piece is what one field, or two that go together, may hold.
type piece struct {
	lay     func(u *url.URL)
	written string
	right   bool
}

func schemes() []piece {
	one := func(s string, right bool) piece {
		return piece{func(u *url.URL) { u.Scheme = s }, s, right}
	}
	return []piece{one("http", true), one("https", true), one("ftp", false), one("", false), one("HTTP", false), one("httpss", false), one("http:", false)}
}

func people() []piece {
	one := func(user, pass, written string) piece {
		return piece{func(u *url.URL) { u.User, u.Pass = user, pass }, written, true}
	}
	return []piece{one("", "", ""), one("u", "", "u@"), one("", "p", ":p@"), one("u", "p", "u:p@"), one("a@b:c/", "d@e:f#", "a@b:c/:d@e:f#@")}
}

func hosts() []piece {
	one := func(h host.Host, written string, right bool) piece {
		return piece{func(u *url.URL) { u.Host = h }, written, right}
	}
	return []piece{
		one(domain.Name("a.b"), "a.b", true), one(domain.Name("a."), "a.", true), one(four.Of(127, 0, 0, 1), "127.0.0.1", true), one(six.Addr{Lo: 1}, "[::1]", true), one(six.Addr{}, "[::]", true),
		one(nil, "", false), one(domain.Name(""), "", false), one(domain.Name("A"), "A", false), one(domain.Name("127.0.0.1"), "127.0.0.1", false), one(domain.Name("[::1]"), "[::1]", false), one(domain.Name("a b"), "a b", false),
	}
}

// ports are those of a scheme, whose own one may not be named.
func ports(scheme string) []piece {
	one := func(n int, written string, right bool) piece {
		return piece{func(u *url.URL) { u.Port = n }, written, right}
	}
	return []piece{
		one(-1, "", true), one(0, ":0", true), one(1, ":1", true), one(79, ":79", true), one(8080, ":8080", true), one(65535, ":65535", true),
		one(80, ":80", scheme != "http"), one(443, ":443", scheme != "https"),
		one(-2, ":-2", false), one(65536, ":65536", false), one(math.MaxInt, ":9223372036854775807", false), one(math.MinInt, ":-9223372036854775808", false),
	}
}

func paths() []piece {
	one := func(written string, right bool, path ...string) piece {
		return piece{func(u *url.URL) { u.Path = path }, written, right}
	}
	return []piece{
		one("/", true, ""), one("/x", true, "x"), one("/x/", true, "x", ""), one("//", true, "", ""), one("/a/b%2Fc/../ d", true, "a", "b%2Fc", "..", " d"), one("/\xFF:@", true, "\xFF:@"),
		one("", false), one("", false, []string{}...), one("//", false, "/"), one("/a/b", false, "a/b"), one("/a\\b", false, "a\\b"), one("/?", false, "?"), one("/x/a?", false, "x", "a?"), one("/a/#/b", false, "a", "#", "b"), one("/x/\\", false, "x", "\\"),
	}
}

func queries() []piece {
	one := func(query string, has bool, written string, right bool) piece {
		return piece{func(u *url.URL) { u.Query, u.HasQuery = query, has }, written, right}
	}
	return []piece{one("", false, "", true), one("", true, "?", true), one("q", true, "?q", true), one("a=/\\?&\xFF", true, "?a=/\\?&\xFF", true), one("q", false, "", false), one("#", false, "", false), one("#", true, "?#", false), one("a#b", true, "?a#b", false)}
}

func fragments() []piece {
	one := func(fragment string, has bool, written string, right bool) piece {
		return piece{func(u *url.URL) { u.Fragment, u.HasFragment = fragment, has }, written, right}
	}
	return []piece{one("", false, "", true), one("", true, "#", true), one("f", true, "#f", true), one("/?#\\\xFF", true, "#/?#\\\xFF", true), one("f", false, "", false)}
}

// check holds each call of a URL against what its pieces are, or are written as.
func check(t *testing.T, scheme, who, name, port, path, query, fragment piece) {
	t.Helper()
	var u url.URL
	right := true
	for _, p := range []piece{scheme, who, name, port, path, query, fragment} {
		p.lay(&u)
		right = right && p.right
	}
	if got := u.Right(); got != right {
		t.Errorf("Right(%#v) = %v", u, got)
	}
	authority := name.written + port.written
	ask := path.written + query.written
	bare := scheme.written + "://" + who.written + authority + ask
	for _, c := range []struct{ call, got, want string }{
		{"Authority", u.Authority(), authority},
		{"Ask", u.Ask(), ask},
		{"Bare", u.Bare(), bare},
		{"Text", u.Text(), bare + fragment.written},
	} {
		if c.got != c.want {
			t.Errorf("%s(%#v) = %q, want %q", c.call, u, c.got, c.want)
		}
	}
}

// full is a URL that has all that one may have.
func full() url.URL {
	return url.URL{Scheme: "http", User: "u", Pass: "p", Host: domain.Name("a.b"), Port: 8080, Path: []string{"x", ""}, Query: "q", HasQuery: true, Fragment: "f", HasFragment: true}
}

// P13.1
func TestOwn(t *testing.T) {
	for s, want := range map[string]int{"http": 80, "https": 443, "": 0, "ftp": 0, "HTTP": 0, "Https": 0, "http ": 0, "http:": 0, "ws": 0, "wss": 0, "httpss": 0, "htt": 0, "80": 0, "\xFF": 0} {
		if got := url.Own(s); got != want {
			t.Errorf("Own(%q) = %d, want %d", s, got, want)
		}
	}
}

// P13.1
func TestEffective(t *testing.T) {
	for _, scheme := range []string{"http", "https", "ftp", "", "HTTP"} {
		for _, port := range []int{-2, 0, 1, 80, 443, 65535, 65536, math.MaxInt, math.MinInt} {
			if got := (url.URL{Scheme: scheme, Port: port}).Effective(); got != port {
				t.Errorf("Effective of %q and %d = %d", scheme, port, got)
			}
		}
		own := map[string]int{"http": 80, "https": 443}[scheme]
		if got := (url.URL{Scheme: scheme, Port: -1}).Effective(); got != own {
			t.Errorf("Effective of %q and none = %d, want %d", scheme, got, own)
		}
	}
}

// P13.1, P13.2: each piece of each field with each one of the others.
func TestAllThatAreWritten(t *testing.T) {
	for _, scheme := range schemes() {
		for _, who := range people() {
			for _, name := range hosts() {
				for _, port := range ports(scheme.written) {
					for _, path := range paths() {
						for i, query := range queries() {
							check(t, scheme, who, name, port, path, query, fragments()[i%len(fragments())])
						}
					}
				}
			}
		}
	}
	scheme, name := schemes()[0], hosts()[0]
	for _, who := range people() {
		for _, path := range paths() {
			for _, query := range queries() {
				for _, fragment := range fragments() {
					check(t, scheme, who, name, ports("http")[0], path, query, fragment)
				}
			}
		}
	}
}

// P13.1: one byte within a segment, a query and a fragment.
func TestRightOfEachByte(t *testing.T) {
	for c := range 256 {
		b := string([]byte{byte(c)})
		for _, s := range []string{b, "a" + b, b + "a", "a" + b + "a"} {
			cut := strings.Contains("/\\?#", b)
			for _, path := range [][]string{{s}, {s, ""}, {"", s}, {"x", s, "y"}} {
				u := full()
				u.Path = path
				if got := u.Right(); got == cut {
					t.Errorf("Right of the path %q = %v", path, got)
				}
			}
			u := full()
			u.Query = s
			if got := u.Right(); got != (b != "#") {
				t.Errorf("Right of the query %q = %v", s, got)
			}
			u = full()
			u.User, u.Pass, u.Fragment = s, s, s
			if !u.Right() {
				t.Errorf("with %q for a name, password and fragment it isn't right", s)
			}
		}
	}
}

// P13.1: each port near the bounds, of each scheme.
func TestRightOfEachPort(t *testing.T) {
	for scheme, own := range map[string]int{"http": 80, "https": 443} {
		for port := -70000; port < 70000; port++ {
			u := full()
			u.Scheme, u.Port = scheme, port
			want := port == -1 || port >= 0 && port <= 65535 && port != own
			if got := u.Right(); got != want {
				t.Errorf("Right of %s and the port %d = %v", scheme, port, got)
			}
		}
	}
}

// P13.1, P13.2: what the chapter and the simplest ones are written as.
func TestExamples(t *testing.T) {
	u := url.URL{Scheme: "http", Host: domain.Name("a.b"), Port: 8080, Path: []string{"x", ""}}
	if got := u.Text(); got != "http://a.b:8080/x/" || !u.Right() {
		t.Errorf("Text = %q, right: %v", got, u.Right())
	}
	u = full()
	if got := u.Text(); got != "http://u:p@a.b:8080/x/?q#f" {
		t.Errorf("Text = %q", got)
	}
	if got := u.Bare(); got != "http://u:p@a.b:8080/x/?q" {
		t.Errorf("Bare = %q", got)
	}
	if got := u.Ask(); got != "/x/?q" {
		t.Errorf("Ask = %q", got)
	}
	if got := u.Authority(); got != "a.b:8080" {
		t.Errorf("Authority = %q", got)
	}
}

// P13.1, P13.2, P13.3: the zero URL, which names the port 0.
func TestZero(t *testing.T) {
	var u url.URL
	if u.Right() || u.Effective() != 0 || u.Authority() != ":0" || u.Ask() != "" || u.Bare() != "://:0" || u.Text() != "://:0" {
		t.Errorf("Right %v, Effective %d, Authority %q, Ask %q, Bare %q, Text %q", u.Right(), u.Effective(), u.Authority(), u.Ask(), u.Bare(), u.Text())
	}
	if !url.Same(u, u) || !url.Same(u, url.URL{Path: []string{}}, u) || url.Same(u, full()) || url.Same(full(), u) || url.Same(u, url.URL{Port: -1}) {
		t.Errorf("Same of the zero URL tells something else")
	}
}

// others are URLs each of which differs from the full one in one field alone.
func others() map[string]url.URL {
	all := map[string]url.URL{}
	change := func(what string, lay func(u *url.URL)) {
		u := full()
		lay(&u)
		all[what] = u
	}
	change("scheme", func(u *url.URL) { u.Scheme = "https" })
	change("great scheme", func(u *url.URL) { u.Scheme = "HTTP" })
	change("user", func(u *url.URL) { u.User = "v" })
	change("no user", func(u *url.URL) { u.User = "" })
	change("pass", func(u *url.URL) { u.Pass = "P" })
	change("no pass", func(u *url.URL) { u.Pass = "" })
	change("user and pass swapped", func(u *url.URL) { u.User, u.Pass = u.Pass, u.User })
	change("host", func(u *url.URL) { u.Host = domain.Name("a.c") })
	change("point behind", func(u *url.URL) { u.Host = domain.Name("a.b.") })
	change("great host", func(u *url.URL) { u.Host = domain.Name("A.b") })
	change("no host", func(u *url.URL) { u.Host = nil })
	change("empty host", func(u *url.URL) { u.Host = domain.Name("") })
	change("four", func(u *url.URL) { u.Host = four.Of(127, 0, 0, 1) })
	change("another four", func(u *url.URL) { u.Host = four.Of(127, 0, 0, 2) })
	change("name like four", func(u *url.URL) { u.Host = domain.Name("127.0.0.1") })
	change("six", func(u *url.URL) { u.Host = six.Addr{Lo: 0xFFFF_7F00_0001} })
	change("another six", func(u *url.URL) { u.Host = six.Addr{Hi: 1, Lo: 0xFFFF_7F00_0001} })
	change("name like six", func(u *url.URL) { u.Host = domain.Name("::ffff:7f00:1") })
	change("name like written six", func(u *url.URL) { u.Host = domain.Name("[::ffff:7f00:1]") })
	change("port", func(u *url.URL) { u.Port = 8081 })
	change("no port", func(u *url.URL) { u.Port = -1 })
	change("own port", func(u *url.URL) { u.Port = 80 })
	change("shorter path", func(u *url.URL) { u.Path = []string{"x"} })
	change("longer path", func(u *url.URL) { u.Path = []string{"x", "", ""} })
	change("path", func(u *url.URL) { u.Path = []string{"y", ""} })
	change("last segment", func(u *url.URL) { u.Path = []string{"x", "y"} })
	change("swapped path", func(u *url.URL) { u.Path = []string{"", "x"} })
	change("path that is written alike", func(u *url.URL) { u.Path = []string{"x/"} })
	change("no path", func(u *url.URL) { u.Path = nil })
	change("path of an empty segment", func(u *url.URL) { u.Path = []string{""} })
	change("query", func(u *url.URL) { u.Query = "Q" })
	change("empty query", func(u *url.URL) { u.Query = "" })
	change("no query", func(u *url.URL) { u.HasQuery = false })
	change("fragment", func(u *url.URL) { u.Fragment = "g" })
	change("empty fragment", func(u *url.URL) { u.Fragment = "" })
	change("no fragment", func(u *url.URL) { u.HasFragment = false })
	return all
}

// P13.3: each of two, which differ in one field, or in two.
func TestSameOfTwo(t *testing.T) {
	all := others()
	all["full"] = full()
	for what, u := range all {
		again := u
		again.Path = slices.Clone(u.Path)
		if !url.Same(u, again) || !url.Same(u, u) {
			t.Errorf("%s isn't the same as itself", what)
		}
		for other, v := range all {
			if got := url.Same(u, v); got != (what == other) {
				t.Errorf("Same of %s and %s = %v", what, other, got)
			}
		}
	}
}

// P13.3: many, one of which differs, at each place, and a Path that is nil or empty.
func TestSameOfMany(t *testing.T) {
	for what, u := range others() {
		for many := 2; many < 6; many++ {
			list := slices.Repeat([]url.URL{full()}, many)
			if !url.Same(list[0], list[1], list[2:]...) {
				t.Errorf("%d that are the same aren't", many)
			}
			for place := range list {
				changed := slices.Clone(list)
				changed[place] = u
				if url.Same(changed[0], changed[1], changed[2:]...) {
					t.Errorf("of %d, with %s at %d, all are the same", many, what, place)
				}
			}
		}
	}
	none, empty := full(), full()
	none.Path, empty.Path = nil, []string{}
	if !url.Same(none, empty) || !url.Same(empty, none) || !url.Same(none, none, empty, none, empty) || url.Same(none, empty, full()) {
		t.Errorf("a path without segments isn't the same, be it nil or not")
	}
}

// The calls leave what they are asked of as it was, spare room included.
func TestNothingIsChanged(t *testing.T) {
	room := []string{"x", "", "spare", "room"}
	u := full()
	u.Path = room[:2]
	u.Right()
	u.Text()
	u.Bare()
	u.Ask()
	u.Authority()
	u.Effective()
	url.Same(u, u, u)
	if !url.Same(u, full()) || !slices.Equal(room, []string{"x", "", "spare", "room"}) {
		t.Errorf("it is %#v, behind it %q", u, room)
	}
}

// P1: each call ends, and none panics, also of what may not be.
func TestNoneOfTheCallsPanics(t *testing.T) {
	long := strings.Repeat("/\\?#%\xFF\x00", 20000)
	for _, h := range []host.Host{nil, domain.Name(""), domain.Name(long), four.Addr(0), six.Addr{}} {
		u := url.URL{Scheme: long, User: long, Pass: long, Host: h, Port: math.MinInt, Path: slices.Repeat([]string{long, ""}, 3), Query: long, HasQuery: true, Fragment: long, HasFragment: true}
		if u.Right() || !url.Same(u, u, u) || u.Effective() != math.MinInt || len(u.Text()) != len(u.Bare())+1+len(long) {
			t.Errorf("with the host %T it tells something else", h)
		}
	}
}
