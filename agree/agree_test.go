package agree_test

import (
	"slices"
	"strconv"
	"strings"
	"testing"

	"mantrap/abnf"
	"mantrap/agree"
	"mantrap/api"
	"mantrap/authority"
	"mantrap/domain"
	"mantrap/four"
	"mantrap/host"
	"mantrap/policy"
	"mantrap/six"
	"mantrap/url"
	"mantrap/whatwg"
)

// chance tells a source of numbers that look like chance, the same ones at each run.
func chance() func(below int) int {
	state := uint64(1)
	return func(below int) int {
		state = state*6364136223846793005 + 1442695040888963407
		return int((state >> 33) % uint64(below))
	}
}

// gate tells the gate of some ports.
func gate(t *testing.T, ports ...int) *policy.Gate {
	t.Helper()
	g, e := policy.Build(policy.Policy{Ports: ports})
	if e != api.OK {
		t.Fatalf("no gate has the ports %v: %d", ports, e)
	}
	return g
}

// same tells whether both targets are.
func same(a, b agree.Target) bool {
	return url.Same(a.URL, b.URL) && a.Site == b.Site
}

// isZero tells whether a target is the zero one.
func isZero(x agree.Target) bool {
	return same(x, agree.Target{})
}

// read tells the target of a text that is agreed upon.
func read(t *testing.T, g *policy.Gate, text string) agree.Target {
	t.Helper()
	x, e := agree.Check(g, text)
	if e != api.OK {
		t.Fatalf("%.300q isn't agreed upon: %d", text, e)
	}
	return x
}

// checkFault fails, where a text isn't refused with an error.
func checkFault(t *testing.T, g *policy.Gate, text string, want api.Errno) {
	t.Helper()
	if x, e := agree.Check(g, text); e != want || !isZero(x) {
		t.Errorf("Check(%.300q) = %+v, %d, want %d", text, x, e, want)
	}
}

// P19.1: texts that are agreed upon, with the URL as layer 14 reads it, and its site.
func TestCheck(t *testing.T) {
	g := gate(t, 80, 443, 8080)
	for text, want := range map[string]agree.Target{
		"http://a/":     {URL: url.URL{Scheme: "http", Host: domain.Name("a"), Port: -1, Path: []string{""}}, Site: authority.Site{Scheme: "http", Host: domain.Name("a"), Port: 80}},
		"https://a":     {URL: url.URL{Scheme: "https", Host: domain.Name("a"), Port: -1, Path: []string{""}}, Site: authority.Site{Scheme: "https", Host: domain.Name("a"), Port: 443}},
		"http://a:443":  {URL: url.URL{Scheme: "http", Host: domain.Name("a"), Port: 443, Path: []string{""}}, Site: authority.Site{Scheme: "http", Host: domain.Name("a"), Port: 443}},
		"https://a:80":  {URL: url.URL{Scheme: "https", Host: domain.Name("a"), Port: 80, Path: []string{""}}, Site: authority.Site{Scheme: "https", Host: domain.Name("a"), Port: 80}},
		"http://0x7f.1": {URL: url.URL{Scheme: "http", Host: four.Of(127, 0, 0, 1), Port: -1, Path: []string{""}}, Site: authority.Site{Scheme: "http", Host: four.Of(127, 0, 0, 1), Port: 80}},
		"HTTP://A.b:080/x/../y?q#f": {
			URL:  url.URL{Scheme: "http", Host: domain.Name("a.b"), Port: -1, Path: []string{"y"}, Query: "q", HasQuery: true, Fragment: "f", HasFragment: true},
			Site: authority.Site{Scheme: "http", Host: domain.Name("a.b"), Port: 80},
		},
		"hTTpS://[::FFFF:1.2.3.4]:08080//%2E/%41?'#": {
			URL:  url.URL{Scheme: "https", Host: six.Addr{Lo: 0xFFFF_0102_0304}, Port: 8080, Path: []string{"", "%41"}, Query: "%27", HasQuery: true, HasFragment: true},
			Site: authority.Site{Scheme: "https", Host: six.Addr{Lo: 0xFFFF_0102_0304}, Port: 8080},
		},
		"http://%61.:?": {URL: url.URL{Scheme: "http", Host: domain.Name("a."), Port: -1, Path: []string{""}, HasQuery: true}, Site: authority.Site{Scheme: "http", Host: domain.Name("a."), Port: 80}},
		// What looks like somebody's name is none behind the authority.
		"http://a/u@b":      {URL: url.URL{Scheme: "http", Host: domain.Name("a"), Port: -1, Path: []string{"u@b"}}, Site: authority.Site{Scheme: "http", Host: domain.Name("a"), Port: 80}},
		"http://a?u:p@b:81": {URL: url.URL{Scheme: "http", Host: domain.Name("a"), Port: -1, Path: []string{""}, Query: "u:p@b:81", HasQuery: true}, Site: authority.Site{Scheme: "http", Host: domain.Name("a"), Port: 80}},
		"http://a#u@b":      {URL: url.URL{Scheme: "http", Host: domain.Name("a"), Port: -1, Path: []string{""}, Fragment: "u@b", HasFragment: true}, Site: authority.Site{Scheme: "http", Host: domain.Name("a"), Port: 80}},
	} {
		if got, e := agree.Check(g, text); e != api.OK || !same(got, want) {
			t.Errorf("Check(%q) = %+v, %d, want %+v", text, got, e, want)
		}
	}
}

// P19.1: each step alone refuses a text that all others let pass.
func TestCheckOfOneFault(t *testing.T) {
	g := gate(t, 80)
	long := "http://a/" + strings.Repeat("x", api.MaxURL)
	for text, want := range map[string]api.Errno{
		// 1: what layer 14 tells.
		"": api.ErrScheme, "a": api.ErrScheme, "//a/": api.ErrScheme, "/a": api.ErrScheme, "ftp://a/": api.ErrScheme, "1:x": api.ErrScheme, ":": api.ErrScheme, "httpss://a/": api.ErrScheme, "file:///etc/passwd": api.ErrScheme, "gopher://a:80/": api.ErrScheme,
		"http:": api.ErrHost, "http://": api.ErrHost, "http:///": api.ErrHost, "http://:80/": api.ErrHost, "http://?a": api.ErrHost, "http://#a": api.ErrHost, "http://a..b/": api.ErrHost, "http://1.2.3.4.5/": api.ErrHost, "http://a.0x/": api.ErrHost, "http://[::1/": api.ErrHost, "http://[v1.a]/": api.ErrHost, "http://a%20b/": api.ErrHost, "http://u@/": api.ErrHost,
		"http://xn--a/": api.ErrIDN, "http://b.XN--a/": api.ErrIDN, "http://\u00E9/": api.ErrIDN, "http://%C3%A9/": api.ErrIDN, "http://\xFF/": api.ErrIDN,
		"http://a:65536/": api.ErrPort, "http://a:x/": api.ErrPort, "http://a:-1/": api.ErrPort, "http://a:80:80/": api.ErrPort, "http://a:18446744073709551696/": api.ErrPort,
		long[:api.MaxURL+1]: api.ErrLong, long: api.ErrLong,
		// 2: what layer 15 tells.
		" http://a/": api.ErrScheme, "\thttp://a/": api.ErrScheme, "ht\ntp://a/": api.ErrScheme, "http\r://a/": api.ErrScheme, "\x00http://a/": api.ErrScheme,
		"http://a\\b/": api.ErrGrammar, "http:\\\\a/": api.ErrGrammar, "http:/\\a/": api.ErrGrammar, "http://a/ ": api.ErrGrammar, "http://a/\n": api.ErrGrammar, "http://a/b c": api.ErrGrammar, "http://a\n/": api.ErrGrammar, "http://a\tb/": api.ErrGrammar, "http://a/%": api.ErrGrammar, "http://a/%zz": api.ErrGrammar, "http://a/[": api.ErrGrammar, "http://a/#b#c": api.ErrGrammar, "http://a/?\"": api.ErrGrammar, "http://a/\u00E9": api.ErrGrammar, "http://a/\xFF": api.ErrGrammar, "http://a\\@b/": api.ErrGrammar, "http://a#\\": api.ErrGrammar,
		// 3: what layer 18 tells.
		"http:a": api.ErrHost, "https:a/": api.ErrHost, "http:/a/": api.ErrHost, "http:///a/": api.ErrHost, "HTTP:////a": api.ErrHost, "http:a//b": api.ErrHost,
		// 4: somebody's name or password, by both readings; and, there and empty, by the strict one alone.
		"http://u@a/": api.ErrUser, "http://u:p@a/": api.ErrUser, "http://u:@a/": api.ErrUser, "http://:p@a/": api.ErrUser, "http://u:p:q@a/": api.ErrUser, "http://%75@a/": api.ErrUser, "http://u@a:80": api.ErrUser, "http://u@[::1]/": api.ErrUser,
		"http://@a/": api.ErrUser, "http://:@a/": api.ErrUser, "http://@a": api.ErrUser, "HTTP://@0x7f.1?x": api.ErrUser,
		// 6: ports that aren't the gate's.
		"http://a:81/": api.ErrPort, "https://a/": api.ErrPort, "https://a:443/": api.ErrPort, "https://a:/": api.ErrPort, "http://a:0": api.ErrPort, "http://a:65535": api.ErrPort, "http://127.1:8": api.ErrPort,
	} {
		checkFault(t, g, text, want)
	}
	if x, e := agree.Check(g, long[:api.MaxURL]); e != api.OK || x.Site.Text() != "http://a:80" {
		t.Errorf("%d bytes: %+v, %d", api.MaxURL, x, e)
	}
}

// P19.1: of two steps that refuse a text the first one's error is told. Where a host, or a
// port, would be told differently by both readings, a step ahead of the fifth refuses it.
func TestCheckOfTwoFaults(t *testing.T) {
	g := gate(t, 80)
	for text, want := range map[string]api.Errno{
		// 1 and 2.
		"ftp://a/ b": api.ErrScheme, "http://a b/": api.ErrHost, "http://\u00E9/ b": api.ErrIDN, "http://a:65536/[": api.ErrPort, " http://": api.ErrHost, " http://xn--a/": api.ErrIDN, "http://[::1\\": api.ErrHost, " http://a/" + strings.Repeat("x", api.MaxURL): api.ErrLong, "http://a%zz/": api.ErrHost,
		// 1 and 3.
		"ftp:a": api.ErrScheme, "ftp://": api.ErrScheme, "http:xn--a": api.ErrIDN, "http:/a:65536": api.ErrPort, "http:///a:x": api.ErrPort, "http:////xn--a/": api.ErrIDN,
		// 1 and 4.
		"ftp://u@a/": api.ErrScheme, "http://u@xn--a/": api.ErrIDN, "http://@a..b/": api.ErrHost, "http://u:p@a:65536/": api.ErrPort, "http://u@a/" + strings.Repeat("x", api.MaxURL): api.ErrLong, "http://@/": api.ErrHost,
		// 1 and 6.
		"ftp://a:81/": api.ErrScheme, "http://xn--a:81/": api.ErrIDN, "http://:81/": api.ErrHost, "https://a..b/": api.ErrHost, "http://a:81/" + strings.Repeat("x", api.MaxURL): api.ErrLong,
		// 2 and 3.
		" http:a": api.ErrScheme, "http:a/ b": api.ErrGrammar, "http:/a\\b": api.ErrGrammar, "http:///a?[": api.ErrGrammar, "http:[::1]": api.ErrGrammar,
		// 2 and 4: also such as both readings tell another host of.
		" http://u@a/": api.ErrScheme, "http://u@a/ b": api.ErrGrammar, "http://u@v@a/": api.ErrGrammar, "http://u@a:80@b/": api.ErrGrammar, "http://u v@a/": api.ErrGrammar, "http://@a\\": api.ErrGrammar, "http://\u00E9@a/": api.ErrGrammar, "http://u%@a/": api.ErrGrammar,
		// 2 and 5.
		"http://a\\.b/": api.ErrGrammar, "http://a\\:81@b/": api.ErrGrammar, "http:\\\\a": api.ErrGrammar, "http:/\\a/b": api.ErrGrammar,
		// 2 and 6.
		" https://a/": api.ErrScheme, "http://a:81/ b": api.ErrGrammar, "http://a:81\\": api.ErrGrammar, "http://a:8\n1/": api.ErrGrammar,
		// 3 and 4.
		"http:u@a/": api.ErrHost, "http:/u@a/": api.ErrHost, "http:///u:p@a/": api.ErrHost,
		// 3 and 5.
		"http:/a//b": api.ErrHost, "http:///a/": api.ErrHost,
		// 3 and 6.
		"http:a:81": api.ErrHost, "https:a": api.ErrHost, "https:/a": api.ErrHost,
		// 4 and 6.
		"http://u@a:81/": api.ErrUser, "http://@a:81/": api.ErrUser, "https://:@a/": api.ErrUser,
		// More.
		" http:u@a:81": api.ErrScheme, "http:u@a:81/ b": api.ErrGrammar, "http:u@a:81": api.ErrHost,
	} {
		checkFault(t, g, text, want)
	}
}

// piece is what a text has at one place: what is read of it, or the first fault that it has.
type piece struct {
	text  string
	fault int // the step, times ten, and the place that it has there; 0: none
	errno api.Errno
	host  host.Host
	port  int
	tail  url.URL
}

const noFault = 1000

func leads() []piece {
	return []piece{{}, {text: " ", fault: 20, errno: api.ErrScheme}, {text: "\n", fault: 20, errno: api.ErrScheme}}
}

func schemes() []piece {
	return []piece{
		{text: "http:", port: 80}, {text: "HtTpS:", port: 443},
		{text: "ftp:", fault: 11, errno: api.ErrScheme}, {text: "", fault: 11, errno: api.ErrScheme}, {text: "http\t:", fault: 20, errno: api.ErrScheme, port: 80},
	}
}

func slashes() []piece {
	return []piece{{text: "//"}, {text: "", fault: 30, errno: api.ErrHost}, {text: "/", fault: 30, errno: api.ErrHost}, {text: "///", fault: 30, errno: api.ErrHost}, {text: "\\\\", fault: 21, errno: api.ErrGrammar}, {text: "/\\", fault: 21, errno: api.ErrGrammar}}
}

func users() []piece {
	return []piece{{}, {text: "u@", fault: 40, errno: api.ErrUser}, {text: "u:p@", fault: 40, errno: api.ErrUser}, {text: "@", fault: 40, errno: api.ErrUser}, {text: ":@", fault: 40, errno: api.ErrUser}, {text: "u v@", fault: 21, errno: api.ErrGrammar}}
}

func hosts() []piece {
	return []piece{
		{text: "a", host: domain.Name("a")}, {text: "A.b.", host: domain.Name("a.b.")}, {text: "%61", host: domain.Name("a")}, {text: "0x7f.1", host: four.Of(127, 0, 0, 1)}, {text: "[::1]", host: six.Addr{Lo: 1}},
		{text: "a..b", fault: 12, errno: api.ErrHost}, {text: "1.2.3.4.5", fault: 12, errno: api.ErrHost}, {text: "[v1.a]", fault: 12, errno: api.ErrHost}, {text: "xn--a", fault: 12, errno: api.ErrIDN}, {text: "\u00E9", fault: 12, errno: api.ErrIDN},
		{text: "a\tb", fault: 21, errno: api.ErrGrammar, host: domain.Name("ab")},
	}
}

func ports() []piece {
	return []piece{
		{port: -1}, {text: ":", port: -1}, {text: ":80", port: 80}, {text: ":0443", port: 443}, {text: ":8080", port: 8080}, {text: ":81", port: 81}, {text: ":0", port: 0},
		{text: ":65536", fault: 13, errno: api.ErrPort}, {text: ":8x", fault: 13, errno: api.ErrPort}, {text: ":8\n0", fault: 21, errno: api.ErrGrammar, port: 80},
	}
}

func tails() []piece {
	return []piece{
		{tail: url.URL{Path: []string{""}}}, {text: "/", tail: url.URL{Path: []string{""}}}, {text: "/x/../%2e/y/", tail: url.URL{Path: []string{"y", ""}}}, {text: "?q", tail: url.URL{Path: []string{""}, Query: "q", HasQuery: true}}, {text: "/?'#f", tail: url.URL{Path: []string{""}, Query: "%27", HasQuery: true, Fragment: "f", HasFragment: true}}, {text: "#", tail: url.URL{Path: []string{""}, HasFragment: true}},
		{text: "\\x", fault: 21, errno: api.ErrGrammar}, {text: "/x y", fault: 21, errno: api.ErrGrammar}, {text: "/%4", fault: 21, errno: api.ErrGrammar}, {text: "#f#", fault: 21, errno: api.ErrGrammar}, {text: "/ ", fault: 21, errno: api.ErrGrammar},
	}
}

// checkPieces holds Check of a text of pieces against what is known of each.
func checkPieces(t *testing.T, g *policy.Gate, lead, scheme, slash, user, name, port, tail piece) bool {
	first, want := noFault, api.OK
	add := func(fault int, e api.Errno) {
		if fault != 0 && fault < first {
			first, want = fault, e
		}
	}
	for _, p := range []piece{lead, scheme, slash, user, name, port, tail} {
		add(p.fault, p.errno)
	}
	if strings.HasPrefix(name.text, "[") && slash.text != "//" { // brackets stand in a path then
		add(21, api.ErrGrammar)
	}
	number := port.port
	if number == -1 {
		number = scheme.port
	}
	if !g.Port(number) {
		add(60, api.ErrPort)
	}
	text := lead.text + scheme.text + slash.text + user.text + name.text + port.text + tail.text
	if want != api.OK {
		checkFault(t, g, text, want)
		return false
	}
	u := tail.tail
	u.Scheme, u.Host, u.Port = strings.TrimSuffix(strings.ToLower(scheme.text), ":"), name.host, number
	if number == scheme.port {
		u.Port = -1
	}
	whole := agree.Target{URL: u, Site: authority.Site{Scheme: u.Scheme, Host: name.host, Port: number}}
	if got, e := agree.Check(g, text); e != api.OK || !same(got, whole) {
		t.Errorf("Check(%q) = %+v, %d, want %+v", text, got, e, whole)
	}
	checkFollowing(t, g, text)
	return true
}

// P19.1, P19.3: each piece with each of the others, whatever the faults are, and however many.
func TestCheckOfPieces(t *testing.T) {
	g := gate(t, 80, 8080)
	told := 0
	for _, lead := range leads() {
		for _, scheme := range schemes() {
			for _, slash := range slashes() {
				for _, user := range users() {
					for _, name := range hosts() {
						for _, port := range ports() {
							for _, tail := range tails() {
								if scheme.text == "" && slash.text == "" {
									continue // what stands ahead of a colon would be the scheme
								}
								if checkPieces(t, g, lead, scheme, slash, user, name, port, tail) {
									told++
								}
							}
						}
					}
				}
			}
		}
	}
	if told < 100 {
		t.Errorf("but %d of them are agreed upon", told)
	}
}

// P19.1: ports that are named or not, the scheme's own or not, the gate's or not.
func TestCheckOfPorts(t *testing.T) {
	for _, of := range [][]int{nil, {80}, {443}, {80, 443}, {443, 8080, 80}, {81}, {1, 65535}, {80, 80}} {
		g := gate(t, of...)
		for scheme, own := range map[string]int{"http": 80, "https": 443} {
			for _, n := range []int{-1, 0, 1, 79, 80, 81, 442, 443, 444, 8080, 65535, 65536} {
				text, number := scheme+"://a", n
				if n >= 0 {
					text += ":" + strconv.Itoa(n)
				} else {
					number = own
				}
				if !slices.Contains(of, number) {
					checkFault(t, g, text, api.ErrPort)
				} else if x := read(t, g, text); x.Site.Port != number {
					t.Errorf("%s: the port %d, want %d", text, x.Site.Port, number)
				}
				checkFault(t, nil, text, api.ErrPort)
			}
		}
	}
}

// P19.1: of a nil gate no port is one; all other errors are told ahead of that.
func TestANilGate(t *testing.T) {
	for text, want := range map[string]api.Errno{"http://a/": api.ErrPort, "https://[::1]": api.ErrPort, "http://u@a/": api.ErrUser, "http:a": api.ErrHost, "http://a\\": api.ErrGrammar, "ftp://a": api.ErrScheme} {
		checkFault(t, nil, text, want)
		if x, n, e := agree.Follow(nil, text, "/"); !isZero(x) || n != 0 || e != want {
			t.Errorf("Follow of %q = %+v, %d, %d, want %d", text, x, n, e, want)
		}
	}
	x := read(t, gate(t, 80), "http://a/b?c")
	if text, y, e := agree.Next(nil, x, "d"); text != "http://a/d" || !isZero(y) || e != api.ErrPort {
		t.Errorf("Next = %q, %+v, %d", text, y, e)
	}
	if text, y, e := agree.Next(nil, x, "ftp:d"); text != "" || !isZero(y) || e != api.ErrScheme {
		t.Errorf("Next = %q, %+v, %d", text, y, e)
	}
}

// step is a location with what Next answers of it.
type step struct {
	location, text string
	errno          api.Errno
}

// checkNext holds Next against what is wanted.
func checkNext(t *testing.T, g *policy.Gate, from agree.Target, s step) {
	t.Helper()
	text, got, e := agree.Next(g, from, s.location)
	var want agree.Target
	if s.errno == api.OK {
		want = read(t, g, s.text)
	}
	if text != s.text || e != s.errno || !same(got, want) {
		t.Errorf("from %.100q to %.100q: %.300q, %+v, %d, want %.300q, %+v, %d", from.URL.Text(), s.location, text, got, e, s.text, want, s.errno)
	}
	if e == api.OK && (got.URL.HasFragment || got.URL.Bare() != text) {
		t.Errorf("from %.100q to %.100q: %.300q isn't what %+v is written as", from.URL.Text(), s.location, text, got)
	}
}

// P19.1: each sort of location, from a target whose URL has a query and a fragment.
func TestNext(t *testing.T) {
	g := gate(t, 80, 443, 8080)
	from := read(t, g, "http://A.b:8080/c/d/?e=1#f")
	for _, s := range []step{
		// Without an own host.
		{"", "http://a.b:8080/c/d/?e=1", api.OK}, {" \t\n", "http://a.b:8080/c/d/?e=1", api.OK}, {"#", "http://a.b:8080/c/d/?e=1", api.OK}, {"#g#h \\", "http://a.b:8080/c/d/?e=1", api.OK}, {"?", "http://a.b:8080/c/d/?", api.OK}, {"?q'#g", "http://a.b:8080/c/d/?q%27", api.OK},
		{"x", "http://a.b:8080/c/d/x", api.OK}, {"../x/./y/..", "http://a.b:8080/c/x/", api.OK}, {"../../../..", "http://a.b:8080/", api.OK}, {"/./%2E%2e/z?#", "http://a.b:8080/z?", api.OK}, {"/", "http://a.b:8080/", api.OK}, {"\\x\\y", "http://a.b:8080/x/y", api.OK}, {" x y ", "http://a.b:8080/c/d/x%20y", api.OK}, {"x\ny\u00E9", "http://a.b:8080/c/d/xy%C3%A9", api.OK}, {"^{}", "http://a.b:8080/c/d/%5E%7B%7D", api.OK}, {"u@v:81", "http://a.b:8080/c/d/u@v:81", api.OK}, {"HTTP:x", "http://a.b:8080/c/d/x", api.OK}, {"http:", "http://a.b:8080/c/d/?e=1", api.OK}, {"http:/x", "http://a.b:8080/x", api.OK},
		// Of another host, of another scheme.
		{"//c", "http://c/", api.OK}, {"\\\\C\\x", "http://c/x", api.OK}, {"///0x7f.1:080?q", "http://127.0.0.1/?q", api.OK}, {"http:////[::FFFF:1.2.3.4]:443", "http://[::ffff:102:304]:443/", api.OK}, {"https://a.b/#f", "https://a.b/", api.OK}, {"https:c", "https://c/", api.OK}, {"https:/c/d", "https://c/d", api.OK}, {"HTTPS:\\c:0443\\", "https://c/", api.OK}, {"//a.b", "http://a.b/", api.OK},
		// There and empty: what is written has nobody's name any more.
		{"//@c", "http://c/", api.OK}, {"//:@c", "http://c/", api.OK},
		// Layer 14 doesn't read it: no text comes back.
		{"ftp://c", "", api.ErrScheme}, {"javascript:x", "", api.ErrScheme}, {"a.b:80", "", api.ErrScheme}, {"//", "", api.ErrHost}, {"http://", "", api.ErrHost}, {"https:", "", api.ErrHost}, {"//a..b", "", api.ErrHost}, {"//1.2.3.4.5", "", api.ErrHost}, {"//xn--a", "", api.ErrIDN}, {"//\u00E9", "", api.ErrIDN}, {"//c:65536", "", api.ErrPort}, {"//c:x", "", api.ErrPort}, {strings.Repeat("x", api.MaxURL+1), "", api.ErrLong}, {"#" + strings.Repeat("x", api.MaxURL), "", api.ErrLong},
		// It is read, and what is written of it isn't agreed upon.
		{"//u@c/#f", "http://u@c/", api.ErrUser}, {"//u:p@c", "http://u:p@c/", api.ErrUser}, {"//:p@c", "http://:p@c/", api.ErrUser}, {"//u@v@c:81", "http://u%40v@c:81/", api.ErrUser}, {"//c:81/#f", "http://c:81/", api.ErrPort}, {"https://c:0/x", "https://c:0/x", api.ErrPort}, {"[x]", "http://a.b:8080/c/d/[x]", api.ErrGrammar}, {"/%zz#f", "http://a.b:8080/%zz", api.ErrGrammar}, {"?\\", "http://a.b:8080/c/d/?\\", api.ErrGrammar}, {"?|", "http://a.b:8080/c/d/?|", api.ErrGrammar}, {"//u@c/|", "http://u@c/|", api.ErrGrammar},
	} {
		checkNext(t, g, from, s)
	}
}

// P19.1: from a target at a host alone, and from one that was led to.
func TestNextFromOthers(t *testing.T) {
	g := gate(t, 80, 443)
	from := read(t, g, "https://[::1]")
	for _, s := range []step{{"", "https://[::1]/", api.OK}, {"x", "https://[::1]/x", api.OK}, {"?x", "https://[::1]/?x", api.OK}, {"..", "https://[::1]/", api.OK}, {"https:x", "https://[::1]/x", api.OK}, {"http:x", "http://x/", api.OK}, {"//x", "https://x/", api.OK}, {"http:", "", api.ErrHost}, {"//x:8080", "https://x:8080/", api.ErrPort}} {
		checkNext(t, g, from, s)
	}
	for range 3 {
		_, next, e := agree.Next(g, from, "//2130706433/x/y?z")
		if e != api.OK {
			t.Fatalf("Next = %d", e)
		}
		for _, s := range []step{{"", "https://127.0.0.1/x/y?z", api.OK}, {"w", "https://127.0.0.1/x/w", api.OK}, {"#w", "https://127.0.0.1/x/y?z", api.OK}} {
			checkNext(t, g, next, s)
		}
		from = next
	}
}

// P19.1: what is written may be too long, though the location wasn't, nor the target's text.
func TestNextOfWhatIsTooLong(t *testing.T) {
	g := gate(t, 80)
	from := read(t, g, "http://a/"+strings.Repeat("x", 1000)+"/")
	room := api.MaxURL - len(from.URL.Bare())
	for _, s := range []step{
		{strings.Repeat("y", room), from.URL.Bare() + strings.Repeat("y", room), api.OK},
		{strings.Repeat("y", room+1), from.URL.Bare() + strings.Repeat("y", room+1), api.ErrLong},
		{strings.Repeat("y", room) + "#f", from.URL.Bare() + strings.Repeat("y", room), api.OK},
		{strings.Repeat("^", 1500), from.URL.Bare() + strings.Repeat("%5E", 1500), api.ErrLong},
	} {
		checkNext(t, g, from, s)
	}
	// So may what is written of a target itself.
	text := "http://a/?" + strings.Repeat("'", 2000)
	checkNext(t, g, read(t, g, text), step{"#f", "http://a/?" + strings.Repeat("%27", 2000), api.ErrLong})
	text = "http://a?" + strings.Repeat("x", api.MaxURL-9)
	checkNext(t, g, read(t, g, text), step{"", "http://a/?" + strings.Repeat("x", api.MaxURL-9), api.ErrLong})
}

// checkFollow holds Follow against what is wanted; of an error no target is.
func checkFollow(t *testing.T, g *policy.Gate, text string, locations []string, want string, n int, errno api.Errno) {
	t.Helper()
	got, followed, e := agree.Follow(g, text, locations...)
	if followed != n || e != errno || (e != api.OK) != isZero(got) || e == api.OK && got.URL.Text() != want {
		t.Errorf("from %q to %.200q: %+v, %d, %d, want %q, %d, %d", text, locations, got, followed, e, want, n, errno)
	}
	if e == api.OK && got.Site != authority.Loose(got.URL) {
		t.Errorf("from %q to %.200q: %+v is of another site", text, locations, got)
	}
}

// P19.2: none, one and many locations.
func TestFollow(t *testing.T) {
	g := gate(t, 80, 443)
	checkFollow(t, g, "http://a/b?c#d", nil, "http://a/b?c#d", 0, api.OK)
	checkFollow(t, g, "http://a/b?c#d", []string{}, "http://a/b?c#d", 0, api.OK)
	checkFollow(t, g, "http://a/b?c#d", []string{""}, "http://a/b?c", 1, api.OK)
	checkFollow(t, g, "http://a/b", []string{"c"}, "http://a/c", 1, api.OK)
	checkFollow(t, g, "http://a/b", []string{"c", "//d"}, "http://d/", 2, api.OK)
	checkFollow(t, g, "http://a/b", []string{"c/", "d", "?e", "#f", "https:g", "\\h", "//0x7f.1"}, "https://127.0.0.1/", 7, api.OK)
	checkFollow(t, g, "http://a/b", []string{"//@c", "x", "../y"}, "http://c/y", 3, api.OK)
	checkFollow(t, g, "http://a/b", slices.Repeat([]string{"//c", "//d", "x/"}, 1000), "http://d/x/", 3000, api.OK)
	checkFollow(t, g, "http://a/", slices.Repeat([]string{"x/"}, 2043), "http://a/"+strings.Repeat("x/", 2043), 2043, api.OK)
	checkFollow(t, g, "http://a/", slices.Repeat([]string{"x/"}, 2050), "", 2043, api.ErrLong)
}

// P19.2: a fault at the text, at the first location, in the middle, at the last one, and at several.
func TestFollowOfFaults(t *testing.T) {
	g := gate(t, 80)
	for location, want := range map[string]api.Errno{
		"ftp:x": api.ErrScheme, "//": api.ErrHost, "//xn--a": api.ErrIDN, "//b:65536": api.ErrPort, strings.Repeat("x", api.MaxURL+1): api.ErrLong,
		"//u@b": api.ErrUser, "//b:81": api.ErrPort, "https://b": api.ErrPort, "[": api.ErrGrammar,
	} {
		for many := range 6 {
			locations := slices.Repeat([]string{"x"}, many)
			for i := range locations {
				faulty := slices.Clone(locations)
				faulty[i] = location
				checkFollow(t, g, "http://a/", faulty, "", i, want)
				for j := i + 1; j < many; j++ {
					faulty[j] = "//u@b/[" // refused, too, but it isn't come to
				}
				checkFollow(t, g, "http://a/", faulty, "", i, want)
			}
		}
	}
	for text, want := range map[string]api.Errno{"": api.ErrScheme, "http://": api.ErrHost, "http://a\\": api.ErrGrammar, "http:a": api.ErrHost, "http://@a": api.ErrUser, "http://a:81": api.ErrPort} {
		checkFollow(t, g, text, nil, "", 0, want)
		checkFollow(t, g, text, []string{"http://a/"}, "", 0, want)
		checkFollow(t, g, text, []string{"ftp:x", "http://a/", "//u@b"}, "", 0, want)
	}
}

// P19.2: Follow is Check, and Next of each location, for many texts and locations.
func TestFollowAgainstNext(t *testing.T) {
	g := gate(t, 80, 443)
	next := chance()
	locations := strings.Split(", ,#f,?q,x,x/y/,../,./.,/,//b,//c:443/,https:d,https:///e/,http:\\\\f,http:g,\\h,^,//@i,//u@j,//k:81,ftp:l,//,[,%,//127.1,//[::1]/x", ",")
	ends := map[api.Errno]int{}
	for range 20000 {
		text := []string{"http://a", "https://a/b/c?d#e", "http://[::2]:80/", "HTTP://0x7f.1/b", "http://u@a/"}[next(5)]
		var list []string
		for range next(8) {
			list = append(list, locations[next(len(locations))])
		}
		want, n, e := agree.Target{}, 0, api.OK
		if want, e = agree.Check(g, text); e == api.OK {
			for n < len(list) && e == api.OK {
				if _, want, e = agree.Next(g, want, list[n]); e == api.OK {
					n++
				}
			}
		}
		got, followed, errno := agree.Follow(g, text, list...)
		if !same(got, want) || followed != n || errno != e {
			t.Errorf("from %q to %q: %+v, %d, %d, want %+v, %d, %d", text, list, got, followed, errno, want, n, e)
		}
		ends[e]++
	}
	if ends[api.OK] < 2000 || len(ends) < 6 {
		t.Errorf("they end too much alike: %v", ends)
	}
}

// checkFollowing holds what is agreed upon against what has to follow of that.
func checkFollowing(t *testing.T, g *policy.Gate, text string) {
	t.Helper()
	x := read(t, g, text)
	u, s := x.URL, x.Site
	if u.Scheme != "http" && u.Scheme != "https" || !u.Right() || u.User+u.Pass != "" {
		t.Errorf("%.300q: the URL is %+v", text, u)
	}
	if s != (authority.Site{Scheme: u.Scheme, Host: u.Host, Port: u.Effective()}) || !host.Right(s.Host) || !g.Port(s.Port) {
		t.Errorf("%.300q: the site is %+v, of %+v", text, s, u)
	}
	bare := u.Bare()
	if len(bare) > api.MaxURL {
		checkFault(t, g, bare, api.ErrLong)
		return
	}
	want := x
	want.URL.Fragment, want.URL.HasFragment = "", false
	if got, e := agree.Check(g, bare); e != api.OK || !same(got, want) || got.URL.Bare() != bare {
		t.Errorf("%.300q is agreed upon as %+v, but so as it is written, %.300q, as %+v, %d", text, x, bare, got, e)
	}
}

// P19.3: what is agreed upon, written without its fragment, and checked again.
func TestWhatFollows(t *testing.T) {
	g := gate(t, 80, 443, 8080)
	for _, text := range []string{
		"http://a", "HTTPS://A.b.:0443/../x/./y//%2e%2E/?q=1&r'#f?g", "http://0x7f.1:8080/", "http://017700000001?#", "https://2130706433", "http://%31%32%37.0.0.1:/x", "http://[::FFFF:127.0.0.1]:443/", "https://[1:2:3::5:6:7:8]", "http://!$&'()*+,;=-._~a/", "http://a/%7e/%7E/:@!$&'()*+,;=", "http://a?", "http://a#", "http://a//", "http://a/..//../b",
		"http://a/?" + strings.Repeat("'", 1362), "http://a/?" + strings.Repeat("'", 1363), "http://a?" + strings.Repeat("x", api.MaxURL-10), "http://a?" + strings.Repeat("x", api.MaxURL-9), "http://0/" + strings.Repeat("x", api.MaxURL-9),
	} {
		checkFollowing(t, g, text)
	}
}

// inOrder tells the error of a text, by all steps' errors side by side; each step that can't be done passes here.
func inOrder(g *policy.Gate, text string) api.Errno {
	u, first := whatwg.Absolute(text)
	parts, second := abnf.Parse(text)
	strict, third := authority.Strict(parts)
	loose := authority.Loose(u)
	errors := []api.Errno{first, second, third, api.OK, api.OK, api.OK}
	if strict.User || loose.User {
		errors[3] = api.ErrUser
	}
	if len(authority.Differ(strict, loose)) != 0 {
		errors[4] = api.ErrDiffer
	}
	if !g.Port(strict.Port) {
		errors[5] = api.ErrPort
	}
	for _, e := range errors {
		if e != api.OK {
			return e
		}
	}
	return api.OK
}

// P1, P19.1, P19.3: texts of few signs, against all steps side by side.
func TestAnyTexts(t *testing.T) {
	g := gate(t, 80, 8)
	next := chance()
	words := strings.Split("http:// http:// http:// HTTPS:// http: // / \\ a A.b 1 0x7f. [::1] [ ] @ : : :8 :80 :443 u@ % %41 %2e .. . ? # ' ^ | \u00E9 \xFF xn--", " ")
	words = append(words, " ", "\t", "\n", "\x00", "\x7F")
	ends := map[api.Errno]int{}
	for range 300000 {
		text := words[next(6)]
		for range next(7) {
			text += words[next(len(words))]
		}
		x, e := agree.Check(g, text)
		if want := inOrder(g, text); e != want || e != api.OK && !isZero(x) {
			t.Errorf("Check(%q) = %+v, %d, want %d", text, x, e, want)
		}
		if e == api.OK {
			checkFollowing(t, g, text)
		}
		ends[e]++
	}
	for _, e := range []api.Errno{api.OK, api.ErrScheme, api.ErrGrammar, api.ErrHost, api.ErrIDN, api.ErrPort, api.ErrUser} {
		if ends[e] < 300 {
			t.Errorf("too few end in %d: %v", e, ends)
		}
	}
}

// P1: no call panics, also not of targets that were not agreed upon.
func TestNoCallPanics(t *testing.T) {
	g := gate(t, 80)
	targets := []agree.Target{{}, {URL: url.URL{Scheme: "http"}}, {URL: url.URL{Scheme: "http", Port: -1, Host: domain.Name("a b")}}, {URL: url.URL{Scheme: "ftp", Host: four.Addr(1), Port: 70000, Query: "#", Path: []string{"/", "?"}}}}
	for c := range 256 {
		sign := string([]byte{byte(c)})
		for _, s := range []string{sign, sign + sign, "//" + sign, "http:" + sign, "http://a" + sign, sign + "@" + sign + ":" + sign, "?" + sign, "#" + sign} {
			agree.Check(g, s)
			agree.Check(nil, s)
			agree.Follow(g, "http://a/", s, s)
			for _, x := range targets {
				text, y, e := agree.Next(g, x, s)
				if e != api.OK && !isZero(y) || e == api.OK && text != y.URL.Bare() {
					t.Errorf("Next of %+v and %q = %q, %+v, %d", x, s, text, y, e)
				}
			}
		}
	}
	agree.Check(g, strings.Repeat("/", 100000))
	agree.Follow(g, "http://a/", strings.Repeat("../", 1300), strings.Repeat("\x00", 100000))
}

// Memory: what is handed in stays as it was, spare room included, and an answer shares nothing with it, or with another one.
func TestNothingIsShared(t *testing.T) {
	g := gate(t, 80)
	room := []string{"x", "y", "z", "spare", "room"}
	from := read(t, g, "http://a/x/y/z?q#f")
	from.URL.Path = room[:3]
	list := []string{"", "#g", "?r", "w", "../..", "/", "//b/c", "ftp:x", "//u@c", "n/o/p/q"}
	handed := slices.Clone(list)
	for _, location := range list {
		_, one, e := agree.Next(g, from, location)
		_, two, _ := agree.Next(g, from, location)
		if !slices.Equal(room, []string{"x", "y", "z", "spare", "room"}) || from.URL.Text() != "http://a/x/y/z?q#f" {
			t.Fatalf("%q: the target is %q, with the room %q", location, from.URL.Text(), room)
		}
		if e != api.OK {
			continue
		}
		path := slices.Clone(two.URL.Path)
		for i := range one.URL.Path {
			one.URL.Path[i] = "!"
		}
		_ = append(one.URL.Path, "!")
		if !slices.Equal(two.URL.Path, path) || !slices.Equal(room, []string{"x", "y", "z", "spare", "room"}) {
			t.Errorf("%q: what is written into an answer is seen elsewhere: %q, %q", location, two.URL.Path, room)
		}
	}
	one, two := read(t, g, "http://a/x/y"), read(t, g, "http://a/x/y")
	one.URL.Path[0] = "!"
	if two.URL.Text() != "http://a/x/y" || read(t, g, "http://a/x/y").URL.Text() != "http://a/x/y" {
		t.Errorf("two answers share their paths: %q", two.URL.Text())
	}
	agree.Follow(g, "http://a/", list[:7]...)
	if !slices.Equal(list, handed) {
		t.Errorf("the locations are %q now", list)
	}
}

// What the chapter's examples say.
func TestExamples(t *testing.T) {
	g := gate(t, 80)
	if x := read(t, g, "http://0x7f.1/"); x.Site.Text() != "http://127.0.0.1:80" {
		t.Errorf("0x7f.1 is %q", x.Site.Text())
	}
	checkFault(t, g, "http://a\\b/", api.ErrGrammar)
	checkFault(t, g, "http://u@a/", api.ErrUser)
	checkFault(t, g, "HTTP:\\\\A.b:080/x/../y", api.ErrGrammar)
}
