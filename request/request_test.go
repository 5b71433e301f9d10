package request_test

import (
	"slices"
	"strings"
	"testing"

	"mantrap/agree"
	"mantrap/api"
	"mantrap/authority"
	"mantrap/domain"
	"mantrap/four"
	"mantrap/host"
	"mantrap/policy"
	"mantrap/request"
	"mantrap/six"
	"mantrap/url"
)

// chance tells a source of numbers that look like chance, the same ones at each run.
func chance() func(below int) int {
	state := uint64(1)
	return func(below int) int {
		state = state*6364136223846793005 + 1442695040888963407
		return int((state >> 33) % uint64(below))
	}
}

// gate tells the gate of some ports.
func gate(t *testing.T, ports ...int) *policy.Gate {
	t.Helper()
	g, e := policy.Build(policy.Policy{Ports: ports})
	if e != api.OK {
		t.Fatalf("no gate has the ports %v: %d", ports, e)
	}
	return g
}

// agreed tells the target of a text that is agreed upon.
func agreed(t *testing.T, g *policy.Gate, text string) agree.Target {
	t.Helper()
	x, e := agree.Check(g, text)
	if e != api.OK {
		t.Fatalf("%.300q isn't agreed upon: %d", text, e)
	}
	return x
}

// target tells one that asks something of a host by that name, whatever both are.
func target(ask, name string) agree.Target {
	x := agree.Target{Site: authority.Site{Host: domain.Name(name)}}
	if segment, ok := strings.CutPrefix(ask, "/"); ok {
		x.URL.Path = []string{segment}
		return x
	}
	x.URL.Query, x.URL.HasQuery = strings.CutPrefix(ask, "?")
	return x
}

// text tells the request that asks something of a host, as the chapter's words say.
func text(ask, name string) string {
	return "GET " + ask + " HTTP/1.1\r\nHost: " + name + "\r\nAccept: */*\r\nConnection: close\r\n\r\n"
}

// checkRead fails, where a text isn't read as what is wanted.
func checkRead(t *testing.T, s, ask, name string) {
	t.Helper()
	if a, ok := request.Read(s); !ok || a != (request.Asked{Ask: ask, Host: name}) {
		t.Errorf("Read(%.300q) = %.100q, %v, want %.100q, %.100q", s, a, ok, ask, name)
	}
}

// checkNone fails, where a text is read.
func checkNone(t *testing.T, s string) {
	t.Helper()
	if a, ok := request.Read(s); ok || a != (request.Asked{}) {
		t.Errorf("Read(%.300q) = %.100q, %v", s, a, ok)
	}
}

// P24.1, P24.2: targets that were agreed upon, with and without a port of their
// own, with a query, with a fragment, of addresses of either sort: what is written, and that it is read.
func TestWriteOfTheAgreed(t *testing.T) {
	g := gate(t, 80, 443, 8080, 1, 65535)
	for from, want := range map[string][2]string{
		"http://a.b/": {"/", "a.b"}, "http://a.b": {"/", "a.b"}, "https://a.b/x": {"/x", "a.b"}, "http://a.b:80/x": {"/x", "a.b"}, "http://a.b:0080/x": {"/x", "a.b"}, "https://a:443": {"/", "a"}, "http://a:/": {"/", "a"},
		"http://a.b:8080/x": {"/x", "a.b:8080"}, "http://a.b:443/x": {"/x", "a.b:443"}, "https://a.b:80/x": {"/x", "a.b:80"}, "http://a:1": {"/", "a:1"}, "http://a:65535/x/": {"/x/", "a:65535"}, "http://a:08080": {"/", "a:8080"},
		"http://a?": {"/?", "a"}, "http://a?x": {"/?x", "a"}, "http://a/b?c=d&e/f?g": {"/b?c=d&e/f?g", "a"}, "http://a:8080/b?c": {"/b?c", "a:8080"}, "http://a/?'": {"/?%27", "a"},
		"http://a#": {"/", "a"}, "http://a/b#c": {"/b", "a"}, "http://a/b?c#d/e?f": {"/b?c", "a"}, "https://a:8080?#": {"/?", "a:8080"},
		"http://127.0.0.1/": {"/", "127.0.0.1"}, "http://0x7f.1:8080/b": {"/b", "127.0.0.1:8080"}, "http://2130706433": {"/", "127.0.0.1"},
		"http://[::1]/": {"/", "[::1]"}, "http://[0:0::FFFF:1.2.3.4]:443/b?c": {"/b?c", "[::ffff:102:304]:443"}, "https://[2001:db8::]:443/": {"/", "[2001:db8::]"},
		"HTTP://A.B.:8080/x/../y/.": {"/y/", "a.b.:8080"}, "http://a//b//": {"//b//", "a"}, "http://a/%20%0d%0A": {"/%20%0d%0A", "a"}, "http://a/../..": {"/", "a"}, "http://a/HTTP/1.1": {"/HTTP/1.1", "a"}, "http://a/u@b:1": {"/u@b:1", "a"},
	} {
		x := agreed(t, g, from)
		s := request.Write(x)
		if s != text(want[0], want[1]) {
			t.Errorf("Write of %q = %q", from, s)
		}
		checkRead(t, s, want[0], want[1])
		checkRead(t, s, x.URL.Ask(), x.Site.Header())
	}
}

// P24.1: what is written of targets that nobody agreed upon, whatever they are.
func TestWriteOfOthers(t *testing.T) {
	name := domain.Name("a")
	for _, c := range []struct {
		x         agree.Target
		ask, name string
	}{
		{agree.Target{}, "", ""},
		{agree.Target{URL: url.URL{Path: []string{""}}}, "/", ""},
		{agree.Target{URL: url.URL{Path: []string{}, Query: "x"}, Site: authority.Site{Host: name}}, "", "a"},
		{agree.Target{URL: url.URL{HasQuery: true, Query: "x"}, Site: authority.Site{Host: name, Port: 5}}, "?x", "a:5"},
		{agree.Target{URL: url.URL{Path: []string{"a b", "/", "?"}, HasQuery: true}, Site: authority.Site{Scheme: "http", Host: name, Port: 80}}, "/a b///??", "a"},
		{agree.Target{URL: url.URL{Scheme: "http", User: "u", Pass: "p", Host: domain.Name("b"), Port: 7, Path: []string{"x"}, Fragment: "f", HasFragment: true}, Site: authority.Site{Scheme: "https", Host: name, Port: 80, User: true}}, "/x", "a:80"},
		{agree.Target{URL: url.URL{Host: name, Path: []string{"\r\n"}}, Site: authority.Site{Scheme: "ftp", Port: -1}}, "/\r\n", ":-1"},
		{agree.Target{Site: authority.Site{Scheme: "HTTP", Host: domain.Name("A b"), Port: 80}}, "", "A b:80"},
		{agree.Target{URL: url.URL{Path: []string{"x"}}, Site: authority.Site{Scheme: "http", Host: six.Addr{Lo: 1}}}, "/x", "[::1]:0"},
		{agree.Target{URL: url.URL{Path: []string{"x"}}, Site: authority.Site{Scheme: "https", Host: four.Of(1, 2, 3, 4), Port: 443}}, "/x", "1.2.3.4"},
		{target("/\xFF\x00", "\xFF"), "/\xFF\x00", "\xFF"},
	} {
		if s := request.Write(c.x); s != text(c.ask, c.name) {
			t.Errorf("Write(%+v) = %q", c.x, s)
		}
	}
}

// P24.1: what is read: of what is asked and of the Host anything, but blanks and ends of lines.
func TestRead(t *testing.T) {
	for _, ask := range []string{"/", "//", "/x", "/x/", "/x?y", "/?", "/#", "/\t", "/\x00", "/\xFF", "/\v\f", "/\u00A0\u0085\u2028", "/HTTP/1.1", "/Host:", "/GET", "/%20", "/\\", "/" + strings.Repeat("x", 100000)} {
		for _, name := range []string{"a", "a.b", "a.b:8080", ":", ":1", "[::1]", "A", "Host:", "a/b", "a@b", "\t", "\x00", "\xFF", "\u00A0", "*/*", "GET", strings.Repeat("a", 100000)} {
			checkRead(t, text(ask, name), ask, name)
			if s := request.Write(target(ask, name)); s != text(ask, name) {
				t.Errorf("no target is written as %.300q", s)
			}
		}
	}
}

// P24.1: what is asked is empty, or doesn't begin with /, or has a blank, or an end of a line of either sort.
func TestReadOfWrongAsks(t *testing.T) {
	for _, ask := range []string{"", "x", "?x", "http://a/", "*", "#", "\\x", "%2F", "x/", ".", "a:1", "\t/",
		" ", " /", "/ ", "/x y", "/  ", "/x ", "/ x", "  /",
		"/\n", "/\r", "/\r\n", "/x\ny", "/x\ry", "/x\r\ny", "\n/", "\r/", "\r\n/", "/x\r", "/x\n",
		"/x HTTP/1.1\r\nHost: b", "/x HTTP/1.1\r\nHost: b\r\n\r\nGET /y", "/x HTTP/1.1", "/ HTTP/1.1\r\nX:",
	} {
		for _, name := range []string{"a", "a.b:1", ""} {
			checkNone(t, text(ask, name))
			checkNone(t, request.Write(target(ask, name)))
		}
	}
}

// P24.1: a Host that is empty, or has a blank, or an end of a line of either sort.
func TestReadOfWrongHosts(t *testing.T) {
	for _, name := range []string{"",
		" ", " a", "a ", "a b", "  a", "a  ",
		"\n", "\r", "\r\n", "a\n", "a\r", "a\r\n", "\na", "\ra", "\r\na", "a\nb", "a\rb", "a\r\nb",
		"a\r\nHost: b", "a\r\nX: y", "a\r\nX:y", "a\r\n\r\n", "a\r\nAccept: */*\r\nConnection: close\r\n\r\nGET / HTTP/1.1\r\nHost: b", "a\r\nAccept:", "a HTTP/1.1\r\nHost: b",
	} {
		for _, ask := range []string{"/", "/x?y", "x", ""} {
			checkNone(t, text(ask, name))
			checkNone(t, request.Write(target(ask, name)))
		}
	}
}

// whole tells a request's lines, each with its end.
func whole() []string {
	return []string{"GET /x HTTP/1.1\r\n", "Host: a.b:8080\r\n", "Accept: */*\r\n", "Connection: close\r\n", "\r\n"}
}

// P24.1: each line is left out, doubled, and put elsewhere.
func TestReadOfOtherLines(t *testing.T) {
	checkRead(t, strings.Join(whole(), ""), "/x", "a.b:8080")
	for i := range 5 {
		checkNone(t, strings.Join(slices.Delete(whole(), i, i+1), ""))
		checkNone(t, strings.Join(slices.Delete(whole(), i, 5), ""))
		checkNone(t, strings.Join(slices.Insert(whole(), i, whole()[i]), ""))
		for j := range 5 {
			if j != i {
				l := whole()
				l[i], l[j] = l[j], l[i]
				checkNone(t, strings.Join(l, ""))
			}
		}
		for _, more := range []string{"X: y\r\n", "Host: c\r\n", "\r\n", "x", " ", "\n", "\r", "\t", "GET /x HTTP/1.1\r\n", "Content-Length: 0\r\n"} {
			checkNone(t, strings.Join(slices.Insert(whole(), i, more), ""))
		}
		// A line feed alone, a carriage return alone, or nothing, stands for both; or they are the other way round.
		for _, end := range []string{"\n", "\r", "", "\n\r", "\r\r\n", "\r\n\n", " \r\n", "\t\r\n", "\v\r\n"} {
			l := whole()
			l[i] = strings.TrimSuffix(l[i], "\r\n") + end
			s := strings.Join(l, "")
			if end == "\t\r\n" && i == 1 || end == "\v\r\n" && i == 1 { // neither is a blank, nor an end of a line
				checkRead(t, s, "/x", strings.TrimSuffix(l[1][6:], "\r\n"))
				continue
			}
			checkNone(t, s)
		}
	}
	checkNone(t, strings.ReplaceAll(strings.Join(whole(), ""), "\r\n", "\n"))
	checkNone(t, strings.ReplaceAll(strings.Join(whole(), ""), "\r\n", "\r"))
}

// P24.1: a text with something ahead, or behind; pieces of a request; and the empty text.
func TestReadOfMoreAndLess(t *testing.T) {
	s := text("/x", "a.b")
	for _, more := range []string{" ", "x", "\r\n", "\n", "\r", "\t", "\x00", "\xFF", "\uFEFF", "GET ", "GET"} {
		checkNone(t, more+s)
		checkNone(t, s+more)
		checkNone(t, more+s+more)
		checkNone(t, more)
	}
	checkNone(t, s+s)
	for i := range len(s) {
		checkNone(t, s[:i])
		if i > 0 {
			checkNone(t, s[i:])
		}
	}
	for _, c := range []string{"", "\r\n\r\n", "GET /x\r\n", "GET /x\r\n\r\n", "/x", "GET ", "GET  HTTP/1.1\r\nHost: \r\nAccept: */*\r\nConnection: close\r\n\r\n", "GET \r\nAccept: */*\r\nConnection: close\r\n\r\n", "GET /x\r\nAccept: */*\r\nConnection: close\r\n\r\n", "GET / HTTP/1.1\r\nHost: a\r\nConnection: close\r\nAccept: */*\r\n\r\n"} {
		checkNone(t, c)
	}
}

// P24.1: one byte is another one: small letters in the place of great ones, and
// each other byte; only what is asked, and the Host, may be others, and are read so.
func TestReadOfOtherBytes(t *testing.T) {
	s := text("/x", "a.b")
	ask, name := strings.Index(s, "/x")+1, strings.Index(s, "a.b")
	for i := range len(s) {
		for c := range 256 {
			changed := []byte(s)
			changed[i] = byte(c)
			switch u := string(changed); {
			case u == s:
				checkRead(t, u, "/x", "a.b")
			case strings.ContainsRune(" \r\n", rune(c)):
				checkNone(t, u)
			case i == ask:
				checkRead(t, u, "/"+string(changed[i:i+1]), "a.b")
			case i >= name && i < name+3:
				checkRead(t, u, "/x", string(changed[name:name+3]))
			default:
				checkNone(t, u)
			}
		}
	}
	for _, wrong := range []string{"get ", "Get ", "POST ", "HEAD ", "GETS ", "GET\t", "GET  "} {
		checkNone(t, strings.Replace(s, "GET ", wrong, 1))
	}
	for _, wrong := range []string{"HTTP/1.0", "HTTP/1.2", "HTTP/11", "http/1.1", "Http/1.1", "HTTP/2", "HTTP/1.1 ", "HTTP/1.10", ""} {
		checkNone(t, strings.Replace(s, "HTTP/1.1", wrong, 1))
	}
	for _, wrong := range []string{"host: ", "HOST: ", "Host:", "Host : ", "Host:\t", "Host", "Hosts: ", "Ho: "} {
		checkNone(t, strings.Replace(s, "Host: ", wrong, 1))
	}
	for _, wrong := range []string{"accept: */*", "ACCEPT: */*", "Accept:*/*", "Accept: *", "Accept: */* ", "Accept:  */*", "Accept: text/html", "Accept: */*, */*"} {
		checkNone(t, strings.Replace(s, "Accept: */*", wrong, 1))
	}
	for _, wrong := range []string{"connection: close", "Connection: Close", "Connection: CLOSE", "Connection:close", "Connection: keep-alive", "Connection: close ", "Connection: closed"} {
		checkNone(t, strings.Replace(s, "Connection: close", wrong, 1))
	}
	checkNone(t, strings.ToLower(s))
	checkNone(t, strings.ToUpper(s))
}

// P24.1: of no names, of one, of many; with great and small letters; of names that hang on a target, and of the empty one.
func TestFields(t *testing.T) {
	for _, c := range []struct{ names, want []string }{
		{nil, nil}, {[]string{}, nil},
		{[]string{"Accept"}, []string{"*/*"}}, {[]string{"Connection"}, []string{"close"}}, {[]string{"Host"}, []string{""}}, {[]string{""}, []string{""}},
		{[]string{"Accept", "Connection"}, []string{"*/*", "close"}}, {[]string{"Connection", "Accept"}, []string{"close", "*/*"}},
		{[]string{"accept", "ACCEPT", "aCCePT", "accepT"}, []string{"*/*", "*/*", "*/*", "*/*"}},
		{[]string{"connection", "CONNECTION", "cOnNeCtIoN"}, []string{"close", "close", "close"}},
		{[]string{"host", "HOST", "GET", "get", "HTTP/1.1", "*/*", "close"}, []string{"", "", "", "", "", "", ""}},
		{[]string{"Accept", "", "Accept", "Host", "Connection", "Connection", "x"}, []string{"*/*", "", "*/*", "", "close", "close", ""}},
		{[]string{"Accept:", " Accept", "Accept ", "Accept: */*", "Accept\r\n", "Acc", "Accepts", "Accept-Encoding", "A", "\x00Accept", "Accept\x00"}, make([]string, 11)},
		{[]string{"Connection:", "Connections", "Proxy-Connection", "Connectio", "con nection", "Connect\u0131on", "Connect\u0130on", "\u212Bccept", "Location", "User-Agent", "\xFF"}, make([]string, 11)},
	} {
		names := slices.Clone(c.names)
		if got := request.Fields(c.names...); !slices.Equal(got, c.want) || !slices.Equal(names, c.names) {
			t.Errorf("Fields(%q) = %q, want %q", c.names, got, c.want)
		}
	}
	if got := request.Fields(); len(got) != 0 {
		t.Errorf("Fields() = %q", got)
	}
	names := slices.Repeat([]string{"accept", "x", "Connection"}, 1000)
	if got := request.Fields(names...); !slices.Equal(got, slices.Repeat([]string{"*/*", "", "close"}, 1000)) {
		t.Errorf("of many names it has %d, or others", len(got))
	}
	// What Fields tells stands in a request, behind its name.
	for i, value := range request.Fields("Accept", "Connection") {
		if line := []string{"Accept", "Connection"}[i] + ": " + value + "\r\n"; !strings.Contains(request.Write(agree.Target{}), line) {
			t.Errorf("no request has the line %q", line)
		}
	}
}

// Memory: names, and what is told of them, are written into afterwards.
func TestNothingIsShared(t *testing.T) {
	room := []string{"Accept", "Host", "Connection", "spare", "room"}
	want := []string{"*/*", "", "close"}
	first, second := request.Fields(room[:3]...), request.Fields(room[:3]...)
	if !slices.Equal(room, []string{"Accept", "Host", "Connection", "spare", "room"}) {
		t.Errorf("what was handed in is %q now", room)
	}
	clear(room)
	first = append(first, "x")
	clear(first[:cap(first)])
	if !slices.Equal(second, want) || !slices.Equal(request.Fields("accept", "host", "connection"), want) {
		t.Errorf("two answers are one: %q", second)
	}
	x := agree.Target{URL: url.URL{Path: []string{"x", "y", "z"}[:2]}, Site: authority.Site{Host: domain.Name("a")}}
	s := request.Write(x)
	if path := x.URL.Path[:3]; !slices.Equal(path, []string{"x", "y", "z"}) {
		t.Errorf("what was handed in is %q now", path)
	}
	x.URL.Path[0] = "w"
	if s != text("/x/y", "a") || request.Write(x) != text("/w/y", "a") {
		t.Errorf("what was written is %q now", s)
	}
}

// isRequest tells what a request asks by its lines alone.
func isRequest(s string) (request.Asked, bool) {
	l := strings.Split(s, "\r\n")
	if len(l) != 6 || !slices.Equal(l[2:], []string{"Accept: */*", "Connection: close", "", ""}) {
		return request.Asked{}, false
	}
	words, names := strings.Split(l[0], " "), strings.Split(l[1], " ")
	if len(words) != 3 || words[0] != "GET" || words[2] != "HTTP/1.1" || len(names) != 2 || names[0] != "Host:" || names[1] == "" {
		return request.Asked{}, false
	}
	if words[1] == "" || words[1][0] != '/' || strings.ContainsAny(words[1]+names[1], "\r\n") {
		return request.Asked{}, false
	}
	return request.Asked{Ask: words[1], Host: names[1]}, true
}

// P1, P24.1: requests with pieces changed by chance, held against what their lines say; what is read is written so again.
func TestReadAgainstLines(t *testing.T) {
	pieces := []string{"GET", " ", "/", "x", "HTTP/1.1", "\r\n", "Host:", "a.b", "Accept: */*", "Connection: close", "\r", "\n", "", "?", "\xFF", "host:", "get", ":"}
	next, read, none := chance(), 0, 0
	for range 200000 {
		l := []string{"GET", " ", "/", "x", " ", "HTTP/1.1", "\r\n", "Host:", " ", "a.b", "\r\n", "Accept: */*", "\r\n", "Connection: close", "\r\n", "\r\n"}
		for range next(3) {
			i := next(len(l))
			switch piece := pieces[next(len(pieces))]; next(4) {
			case 0:
				l[i] = piece
			case 1:
				l = slices.Insert(l, i, piece)
			case 2:
				l = slices.Delete(l, i, i+1)
			default:
				j := next(len(l))
				l[i], l[j] = l[j], l[i]
			}
		}
		s := strings.Join(l, "")
		want, ok := isRequest(s)
		if !ok {
			none++
			checkNone(t, s)
			continue
		}
		read++
		checkRead(t, s, want.Ask, want.Host)
		if request.Write(target(want.Ask, want.Host)) != s {
			t.Errorf("%q isn't written so", s)
		}
	}
	if read < 1000 || none < 1000 {
		t.Errorf("but %d are read, %d aren't", read, none)
	}
}

// P24.2: texts by chance that are agreed upon: what was written of them is read: what they ask, and their site.
func TestWhatWasWrittenIsRead(t *testing.T) {
	g, next, count := gate(t, 80, 443, 8080), chance(), 0
	schemes, hosts := []string{"http://", "HTTPS://"}, []string{"a", "A.b.", "127.1", "0x7f.1", "[::1]", "[2001:DB8::1.2.3.4]", "%61", "a b", "u@a", ""}
	ports, signs := []string{"", ":", ":80", ":443", ":08080", ":81"}, []string{"/", "a", "%20", ".", "..", "?", "&", "'", "#", "%2F", ":", "@", "\\", " ", "\n", "%0d%0a", "!"}
	for range 100000 {
		s := schemes[next(2)] + hosts[next(len(hosts))] + ports[next(len(ports))]
		for range next(7) {
			s += signs[next(len(signs))]
		}
		x, e := agree.Check(g, s)
		if e != api.OK {
			continue
		}
		count++
		checkRead(t, request.Write(x), x.URL.Ask(), x.Site.Header())
		name, e := host.Parse(strings.TrimSuffix(strings.TrimSuffix(strings.TrimSuffix(x.Site.Header(), ":8080"), ":443"), ":80"))
		if e != api.OK || host.Write(name) != host.Write(x.Site.Host) {
			t.Errorf("of %q the Host tells another site: %q", s, x.Site.Header())
		}
	}
	if count < 5000 {
		t.Errorf("but %d are agreed upon", count)
	}
}

// What the chapter's example says.
func TestExample(t *testing.T) {
	s := request.Write(agreed(t, gate(t, 8080), "http://a.b:8080/x"))
	lines := strings.Split(s, "\r\n")
	if lines[0] != "GET /x HTTP/1.1" || lines[1] != "Host: a.b:8080" {
		t.Errorf("the request is %q", s)
	}
	checkRead(t, s, "/x", "a.b:8080")
}
