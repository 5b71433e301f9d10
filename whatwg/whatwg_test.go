package whatwg_test

import (
	"slices"
	"strings"
	"testing"

	"mantrap/api"
	"mantrap/domain"
	"mantrap/four"
	"mantrap/six"
	"mantrap/url"
	"mantrap/whatwg"
)

// isZero tells whether a URL is the zero one.
func isZero(u url.URL) bool {
	return u.Path == nil && url.Same(u, url.URL{})
}

// base tells the URL that a text is, to read others from; nil of the empty text.
func base(t *testing.T, text string) *url.URL {
	t.Helper()
	if text == "" {
		return nil
	}
	u, e := whatwg.Absolute(text)
	if e != api.OK {
		t.Fatalf("Absolute(%q) = %d", text, e)
	}
	return &u
}

// bases are URLs that were read.
func bases(t *testing.T) []*url.URL {
	t.Helper()
	list := []*url.URL{nil}
	for _, text := range []string{"http://a.b", "https://a.b/", "http://u:p@a.b:8080/c/d?q#f", "https://[::1]:8443/c/d/e/?", "http://127.0.0.1//x//y#", "https://:p@a.b/c/%2F?a=/b#?", "http://u@a.b./c/;x/.../%2ea?#"} {
		list = append(list, base(t, text))
	}
	return list
}

// laid are URLs that may be, but that no text is read as.
func laid() []*url.URL {
	return []*url.URL{
		{Scheme: "http", Host: domain.Name("a"), Port: -1, Path: []string{".."}},
		{Scheme: "http", User: "a@b:/", Pass: "\xFF c", Host: six.Addr{Lo: 1}, Port: 443, Path: []string{"a b", "%2e", "\xFF\"", "."}, Query: " '\xFF?", HasQuery: true, Fragment: " ", HasFragment: true},
		{Scheme: "https", User: "", Pass: "p", Host: four.Of(127, 0, 0, 1), Port: 80, Path: []string{"", "\n", "..", ""}, Query: "", HasQuery: true},
	}
}

// hold holds Parse against the model, and against what follows of it.
func hold(t *testing.T, text string, from *url.URL, wasRead bool) (url.URL, api.Errno) {
	t.Helper()
	got, e := whatwg.Parse(text, from)
	want, wantedError := read(text, from)
	switch {
	case e != wantedError || !url.Same(got, want):
		t.Errorf("Parse(%q, %+v) = %+v, %d, want %+v, %d", text, from, got, e, want, wantedError)
	case e != api.OK && !isZero(got):
		t.Errorf("Parse(%q, %+v) = %+v beside %d", text, from, got, e)
	case e == api.OK && !got.Right():
		t.Errorf("Parse(%q, %+v) = %+v, which may not be", text, from, got)
	case e == api.OK && wasRead && len(got.Text()) <= api.MaxURL:
		again, e := whatwg.Parse(got.Text(), from)
		if e != api.OK || !url.Same(got, again) {
			t.Errorf("Parse(%q, %+v) = %+v, read again %+v, %d", text, from, got, again, e)
		}
	}
	return got, e
}

// holdAll holds a text against the model without a base and with each.
func holdAll(t *testing.T, text string, known []*url.URL) {
	t.Helper()
	for _, from := range known {
		hold(t, text, from, true)
	}
	for _, from := range laid() {
		hold(t, text, from, false)
	}
}

// checkText holds what is read against what it is to be written as.
func checkText(t *testing.T, text string, from *url.URL, want string) {
	t.Helper()
	u, e := hold(t, text, from, true)
	if e != api.OK || u.Text() != want {
		t.Errorf("Parse(%q, %+v) = %q, %d, want %q", text, from, u.Text(), e, want)
	}
}

// checkError holds what is not read against its error.
func checkError(t *testing.T, text string, from *url.URL, want api.Errno) {
	t.Helper()
	if u, e := hold(t, text, from, true); e != want {
		t.Errorf("Parse(%q, %+v) = %q, %d, want %d", text, from, u.Text(), e, want)
	}
}

// chance tells a source of numbers that look like chance, the same ones at each run.
func chance() func(below int) int {
	state := uint64(1)
	return func(below int) int {
		state = state*6364136223846793005 + 1442695040888963407
		return int((state >> 33) % uint64(below))
	}
}

// P14.1: the fields, one by one.
func TestFields(t *testing.T) {
	for text, want := range map[string]url.URL{
		"http://a":                        {Scheme: "http", Host: domain.Name("a"), Port: -1, Path: []string{""}},
		"HTTPS:\\\\U:P@[::1]:080/X//?Q#F": {Scheme: "https", User: "U", Pass: "P", Host: six.Addr{Lo: 1}, Port: 80, Path: []string{"X", "", ""}, Query: "Q", HasQuery: true, Fragment: "F", HasFragment: true},
		"http://0x7f.1:0/a/b/../c?#":      {Scheme: "http", Host: four.Of(127, 0, 0, 1), Port: 0, Path: []string{"a", "c"}, HasQuery: true, HasFragment: true},
		"http://u@A.b.:80?q":              {Scheme: "http", User: "u", Host: domain.Name("a.b."), Port: -1, Path: []string{""}, Query: "q", HasQuery: true},
		"http://:p@a:65535#f?g#h":         {Scheme: "http", Pass: "p", Host: domain.Name("a"), Port: 65535, Path: []string{""}, Fragment: "f?g#h", HasFragment: true},
	} {
		u, e := hold(t, text, nil, true)
		if e != api.OK || !url.Same(u, want) {
			t.Errorf("Parse(%q) = %+v, %d, want %+v", text, u, e, want)
		}
	}
}

// P14.1
func TestAbsolute(t *testing.T) {
	for text, want := range map[string]string{
		// Cleaned.
		" http://a/ ": "http://a/", "\x00\x1F\t\n\r http://a/\x20\x00\n": "http://a/", "ht\ntp:\t//\ra\t.b/\nc\rd?\te#\nf": "http://a.b/cd?e#f", "http://a/b c ?d e #f g ": "http://a/b%20c%20?d%20e%20#f%20g", "h\tt\tt\tp\t:a": "http://a/", "http://a/.\t.": "http://a/", "http://a/%\n2e": "http://a/", "http:/\n/a:8\r0/": "http://a/", "http://a/\u00A0": "http://a/%C2%A0", "http://a/\x7F": "http://a/%7F", "http://a/\xC3\n\xA9": "http://a/%C3%A9",
		// The scheme, and slashes behind it.
		"http://a": "http://a/", "HTTP://a": "http://a/", "hTTpS://a": "https://a/", "http:a": "http://a/", "http:/a": "http://a/", "http:\\a": "http://a/", "http:\\\\a": "http://a/", "http:/\\a": "http://a/", "http:\\/a": "http://a/", "http:///a": "http://a/", "http:\\\\\\\\a": "http://a/", "http:////\\//a//b": "http://a//b", "https:a/b": "https://a/b",
		// Who asks.
		"http://u@a": "http://u@a/", "http://u:@a": "http://u@a/", "http://:p@a": "http://:p@a/", "http://u:p@a": "http://u:p@a/", "http://@a": "http://a/", "http://:@a": "http://a/", "http://::@a": "http://:%3A@a/", "http://u:p:q@a": "http://u:p%3Aq@a/", "http://u@v@a": "http://u%40v@a/", "http://u@v:p@q@a": "http://u%40v:p%40q@a/", "http://@@a": "http://%40@a/", "http://u:p@q:r@a:1": "http://u:p%40q%3Ar@a:1/", "http://U%41:%zz%@a": "http://U%41:%zz%@a/", "http://[u@a": "http://%5Bu@a/", "http://a:b@[::1]:c@d:5": "http://a:b%40%5B%3A%3A1%5D%3Ac@d:5/", "http://!$&'()*+,-.~_@a": "http://!$&'()*+,-.~_@a/", "http:// ;<=>^`{|}@a": "http://%20%3B%3C%3D%3E%5E%60%7B%7C%7D@a/", "http://\u00E9:\xFF@a": "http://%C3%A9:%EF%BF%BD@a/", "http:///@a": "http://a/", "http:@a": "http://a/",
		// The host.
		"http://A.B": "http://a.b/", "http://a.b.": "http://a.b./", "http://%41": "http://a/", "http://0x7f.1": "http://127.0.0.1/", "http://2130706433": "http://127.0.0.1/", "http://017700000001:8080": "http://127.0.0.1:8080/", "http://%31%32%37.0.0.1": "http://127.0.0.1/", "http://[::1]": "http://[::1]/", "http://[::FFFF:7f00:1]:1": "http://[::ffff:7f00:1]:1/", "http://u@[::1]": "http://u@[::1]/", "http://!$&'()*+,-;=_~": "http://!$&'()*+,-;=_~/",
		// The port.
		"http://a:": "http://a/", "http://a:/b": "http://a/b", "http://a:?q": "http://a/?q", "http://a:80": "http://a/", "http://a:0080": "http://a/", "http://a:443": "http://a:443/", "https://a:443": "https://a/", "https://a:80": "https://a:80/", "https://a:0000000443": "https://a/", "http://a:0": "http://a:0/", "http://a:00000000000000000000": "http://a:0/", "http://a:1": "http://a:1/", "http://a:65535": "http://a:65535/", "http://a:00000000000000000065535": "http://a:65535/", "http://[::1]:": "http://[::1]/", "http://[::1]:80": "http://[::1]/", "http://a:8": "http://a:8/", "http://a:801": "http://a:801/", "http://a:" + strings.Repeat("0", 4000) + "8": "http://a:8/",
		// The path.
		"http://a/": "http://a/", "http://a//": "http://a//", "http://a\\b\\c": "http://a/b/c", "http://a/b/": "http://a/b/", "http://a/b\\": "http://a/b/", "http://a/\\/b": "http://a///b", "http://a/B%41%zz%": "http://a/B%41%zz%", "http://a/:@;=[]|!$&'()*+,-~_": "http://a/:@;=[]|!$&'()*+,-~_", "http://a/ \"<>^`{}": "http://a/%20%22%3C%3E%5E%60%7B%7D", "http://a/\u00E9/\xFF/\x80\x01x": "http://a/%C3%A9/%EF%BF%BD/%EF%BF%BD%01x", "http://a/b;c=d": "http://a/b;c=d",
		// Points.
		"http://a/.": "http://a/", "http://a/..": "http://a/", "http://a/./": "http://a/", "http://a/../": "http://a/", "http://a/b/.": "http://a/b/", "http://a/b/..": "http://a/", "http://a/b/./": "http://a/b/", "http://a/b/../": "http://a/", "http://a/./b": "http://a/b", "http://a/../b": "http://a/b", "http://a/b/../c": "http://a/c", "http://a/b/./c": "http://a/b/c", "http://a/b/../../../c": "http://a/c", "http://a/b/c/../..": "http://a/", "http://a/b/c/../../..": "http://a/", "http://a//..": "http://a/", "http://a//../b": "http://a/b", "http://a/b//../c": "http://a/b/c", "http://a/b/c/..\\..\\d": "http://a/d",
		"http://a/%2e": "http://a/", "http://a/%2E": "http://a/", "http://a/b/%2e%2E": "http://a/", "http://a/b/.%2e": "http://a/", "http://a/b/%2E.": "http://a/", "http://a/b/%2E%2e/c": "http://a/c", "http://a/b/%2e/c": "http://a/b/c", "http://a/b/.%2E/c/%2e": "http://a/c/",
		"http://a/...": "http://a/...", "http://a/b/.../c": "http://a/b/.../c", "http://a/%2e%2e%2e": "http://a/%2e%2e%2e", "http://a/.b": "http://a/.b", "http://a/b.": "http://a/b.", "http://a/..b": "http://a/..b", "http://a/b/. /c": "http://a/b/.%20/c", "http://a/%252e": "http://a/%252e", "http://a/%2e%": "http://a/%2e%", "http://a/%2%2ee": "http://a/%2%2ee", "http://a/%2f..": "http://a/%2f..", "http://a/b/\uFF0E": "http://a/b/%EF%BC%8E",
		// The query and the fragment.
		"http://a?": "http://a/?", "http://a#": "http://a/#", "http://a?#": "http://a/?#", "http://a?q": "http://a/?q", "http://a#f": "http://a/#f", "http://a/?q?r": "http://a/?q?r", "http://a/#f#g": "http://a/#f#g", "http://a/#f?g": "http://a/#f?g", "http://a/?q#f?g": "http://a/?q#f?g", "http://a/?/b\\c/../d": "http://a/?/b\\c/../d", "http://a/#/b\\c/../d": "http://a/#/b\\c/../d", "http://a?u@b:c/": "http://a/?u@b:c/", "http://a#u@b:c/": "http://a/#u@b:c/", "http://a\\?\\": "http://a/?\\",
		"http://a/? \"'<>^`{|}[]%zz%41": "http://a/?%20%22%27%3C%3E^`{|}[]%zz%41", "http://a/# \"'<>^`{|}[]%zz%41": "http://a/#%20%22'%3C%3E^%60{|}[]%zz%41", "http://a/?\u00E9\xFF\x01#\u00E9\xFF\x01x": "http://a/?%C3%A9%EF%BF%BD%01#%C3%A9%EF%BF%BD%01x", "http://a/?..": "http://a/?..", "http://a/..?..": "http://a/?..", "http://a/..#..": "http://a/#..", "http://a/b/.?q": "http://a/b/?q",
	} {
		checkText(t, text, nil, want)
		if u, e := whatwg.Absolute(text); e != api.OK || u.Text() != want {
			t.Errorf("Absolute(%q) = %q, %d, want %q", text, u.Text(), e, want)
		}
	}
}

// P14.1: the first one of several faults is told.
func TestErrors(t *testing.T) {
	long := strings.Repeat("a", 4096)
	for text, want := range map[string]api.Errno{
		// No scheme, or another one.
		"": api.ErrScheme, " \t\n": api.ErrScheme, "a": api.ErrScheme, "a.b/c": api.ErrScheme, "/": api.ErrScheme, "//a": api.ErrScheme, "\\\\a": api.ErrScheme, "?q": api.ErrScheme, "#f": api.ErrScheme, ":": api.ErrScheme, "://a": api.ErrScheme, ":80": api.ErrScheme, "http": api.ErrScheme, "http//a": api.ErrScheme, "http/://a": api.ErrScheme, "ftp://a": api.ErrScheme, "ftp:": api.ErrScheme, "file:///a": api.ErrScheme, "ws://a": api.ErrScheme, "data:,": api.ErrScheme, "javascript:alert(1)": api.ErrScheme, "httpx://a": api.ErrScheme, "httpss:a": api.ErrScheme, "http1://a": api.ErrScheme, "http+s://a": api.ErrScheme, "http-://a": api.ErrScheme, "http.://a": api.ErrScheme, "h://a": api.ErrScheme, "a1+-.b:": api.ErrScheme,
		"1http://a": api.ErrScheme, "+http://a": api.ErrScheme, "-http://a": api.ErrScheme, ".http://a": api.ErrScheme, "http ://a": api.ErrScheme, "h_ttp://a": api.ErrScheme, "\u00E9http://a": api.ErrScheme, "htt\u00E9p://a": api.ErrScheme, "\xFFhttp://a": api.ErrScheme, "%68ttp://a": api.ErrScheme, "http\x00://a": api.ErrScheme, "\uFF48ttp://a": api.ErrScheme, "\uFEFFhttp://a": api.ErrScheme, "\u00A0http://a": api.ErrScheme, "http\uFF1A//a": api.ErrScheme, "\u212Attp://a": api.ErrScheme, "localhost:80": api.ErrScheme, "a.b:80/c": api.ErrScheme, "u@a": api.ErrScheme, "u:p@a": api.ErrScheme,
		// No host.
		"http:": api.ErrHost, "http:/": api.ErrHost, "http://": api.ErrHost, "http:///": api.ErrHost, "http:\\\\": api.ErrHost, "https:": api.ErrHost, "http:?": api.ErrHost, "http://?q": api.ErrHost, "http://#f": api.ErrHost, "http:#": api.ErrHost, "http://@": api.ErrHost, "http://u@": api.ErrHost, "http://u:p@/": api.ErrHost, "http://u@?a": api.ErrHost, "http://:": api.ErrHost, "http://:80": api.ErrHost, "http://:80/": api.ErrHost, "http://u@:80/": api.ErrHost, "http://:@": api.ErrHost, "http://a@b@/": api.ErrHost,
		// None that may be.
		"http://a b": api.ErrHost, "http://a%20b": api.ErrHost, "http://a..b": api.ErrHost, "http://.": api.ErrHost, "http://1.2.3.4.5": api.ErrHost, "http://256.1": api.ErrHost, "http://a.08": api.ErrHost, "http://a%2fb": api.ErrHost, "http://a%3a80": api.ErrHost, "http://u%40a": api.ErrHost, "http://a<b": api.ErrHost, "http://a^": api.ErrHost, "http://a|b": api.ErrHost, "http://%": api.ErrHost, "http://a%zz": api.ErrHost, "http://a%00": api.ErrHost, "http://\x00a": api.ErrHost, "http:// a": api.ErrHost, "http://" + long[:64]: api.ErrHost,
		"http://\u00E9": api.ErrIDN, "http://\xFF": api.ErrIDN, "http://a\u3002b": api.ErrIDN, "http://%C3%A9": api.ErrIDN, "http://%ff": api.ErrIDN, "http://xn--a": api.ErrIDN, "http://a.XN--b": api.ErrIDN, "http://xn--a:99999": api.ErrIDN, "http://\uFF11\uFF12\uFF17.1": api.ErrIDN,
		// Brackets.
		"http://[": api.ErrHost, "http://]": api.ErrHost, "http://[]": api.ErrHost, "http://[::1": api.ErrHost, "http://[::1:80": api.ErrHost, "http://[::1:80/]": api.ErrHost, "http://::1": api.ErrHost, "http://::1]": api.ErrHost, "http://[::1]a": api.ErrHost, "http://[::1]80": api.ErrHost, "http://[127.0.0.1]": api.ErrHost, "http://[a]": api.ErrHost, "http://a[::1]": api.ErrHost, "http://[[::1]": api.ErrHost, "http://[::1]]:80": api.ErrHost, "http://%5B::1]": api.ErrHost, "http://a::1]": api.ErrPort, "http://a[:80": api.ErrHost, "http://a[:80]:x": api.ErrHost, "http://a]:x": api.ErrHost, "http://[v1.a]": api.ErrHost, "http://[fe80::1%251]": api.ErrHost, "http://[\u00E9]": api.ErrHost,
		// The port.
		"http://a:65536": api.ErrPort, "http://a:x": api.ErrPort, "http://a:-1": api.ErrPort, "http://a:+1": api.ErrPort, "http://a:1x": api.ErrPort, "http://a:x1": api.ErrPort, "http://a: 80": api.ErrPort, "http://a:80 /": api.ErrPort, "http://a:80:": api.ErrPort, "http://a::80": api.ErrPort, "http://a::": api.ErrPort, "http://a:8.0": api.ErrPort, "http://a:%38": api.ErrPort, "http://a:0x50": api.ErrPort, "http://a:1e1": api.ErrPort, "http://a:\uFF18": api.ErrPort, "http://a:8\xFF": api.ErrPort, "http://a:\u0661": api.ErrPort, "http://[::1]:x": api.ErrPort, "http://[::1]::1": api.ErrPort, "http://[::1]:65536": api.ErrPort, "http://a:99999": api.ErrPort, "http://a:100000": api.ErrPort, "http://a:655350": api.ErrPort, "http://a:4294967376": api.ErrPort, "http://a:18446744073709551696": api.ErrPort, "http://a:" + strings.Repeat("9", 4000): api.ErrPort, "http://a:0" + strings.Repeat("1", 4000): api.ErrPort, "http://a:[80]": api.ErrPort, "http://a:65536x": api.ErrPort, "http://a:[": api.ErrPort, "http:http:a": api.ErrPort, "http://127.0.0.1:80x": api.ErrPort,
		// Several at once.
		"ftp://": api.ErrScheme, "ftp://\u00E9:x": api.ErrScheme, "http://:x": api.ErrHost, "http://a b:x": api.ErrHost, "http://\u00E9:x": api.ErrIDN, "http://u@:65536": api.ErrHost, "http://1.2.3.4.5:65536/": api.ErrHost, "http://[::1:x": api.ErrHost, "//:x": api.ErrScheme, "http://\u00E9 :x": api.ErrIDN, "http://\"#@a": api.ErrHost,
	} {
		checkError(t, text, nil, want)
		if u, e := whatwg.Absolute(text); e != want || !isZero(u) {
			t.Errorf("Absolute(%q) = %+v, %d, want %d", text, u, e, want)
		}
	}
	// An authority that is wrong is so with each base, too.
	for _, from := range bases(t) {
		for text, want := range map[string]api.Errno{"http://": api.ErrHost, "https://u@:1": api.ErrHost, "http://xn--a": api.ErrIDN, "https://a:65536": api.ErrPort, "ftp:": api.ErrScheme, "ftp://a": api.ErrScheme, "javascript:": api.ErrScheme, "a:b": api.ErrScheme, "a.b:80": api.ErrScheme} {
			checkError(t, text, from, want)
		}
		if from != nil {
			for text, want := range map[string]api.Errno{"//": api.ErrHost, "\\\\": api.ErrHost, "///?a": api.ErrHost, "/\\u@": api.ErrHost, "//\u00E9": api.ErrIDN, "\\/a:x": api.ErrPort, "//a b:x": api.ErrHost} {
				checkError(t, text, from, want)
			}
		}
	}
}

// P14.1: 4096 bytes may be, counted as they are handed in.
func TestLengths(t *testing.T) {
	const ahead = "http://a/"
	from := base(t, "http://b")
	for size := range 3 {
		for _, c := range []struct {
			text string
			e    api.Errno
		}{
			{ahead + strings.Repeat("b", 4095+size-len(ahead)), api.OK},
			{ahead + strings.Repeat(" ", 4095+size-len(ahead)), api.OK},
			{strings.Repeat("\n", 4095+size-len(ahead)) + ahead, api.OK},
			{ahead + "?" + strings.Repeat("'", 4094+size-len(ahead)), api.OK},
			{ahead + strings.Repeat("\xFF", 4095+size-len(ahead)), api.OK},
			{ahead + strings.Repeat("\u00E9", 2043) + strings.Repeat("b", size), api.OK},
			{"http://" + strings.Repeat("u", 4086+size) + "@a", api.OK},
			{ahead + strings.Repeat("/", 4095+size-len(ahead)), api.OK},
			{"http:" + strings.Repeat("/", 4089+size) + "a", api.OK},
			{strings.Repeat(" ", 4095+size), api.ErrScheme},
			{"ftp:" + strings.Repeat("a", 4091+size), api.ErrScheme},
			{"http:" + strings.Repeat("/", 4090+size), api.ErrHost},
			{"http://a:" + strings.Repeat("x", 4086+size), api.ErrPort},
			{"http://" + strings.Repeat("a", 4088+size), api.ErrHost},
			{"http://" + strings.Repeat("a", 4087+size) + "\xFF", api.ErrIDN},
		} {
			if len(c.text) != 4095+size {
				t.Fatalf("%.20q has %d bytes", c.text, len(c.text))
			}
			want := c.e
			if size == 2 {
				want = api.ErrLong
			}
			if _, e := hold(t, c.text, nil, true); e != want {
				t.Errorf("of %d bytes Parse(%.20q) tells %d, want %d", len(c.text), c.text, e, want)
			}
		}
		for sign, want := range map[string]api.Errno{"b": api.OK, "?": api.OK, "#": api.OK, " ": api.OK, ".": api.OK, "\xFF": api.OK, "/": api.ErrHost} {
			if size == 2 {
				want = api.ErrLong
			}
			if _, e := hold(t, strings.Repeat(sign, 4095+size), from, true); e != want {
				t.Errorf("of %d bytes of %q Parse with a base tells %d, want %d", 4095+size, sign, e, want)
			}
		}
	}
	if u, e := whatwg.Absolute(strings.Repeat(" ", 100000) + ahead); e != api.ErrLong || !isZero(u) {
		t.Errorf("of 100000 bytes Absolute tells %d", e)
	}
	if u, e := whatwg.Chain(ahead, strings.Repeat("b", 4097)); e != api.ErrLong || !isZero(u) {
		t.Errorf("of 4097 bytes Chain tells %d", e)
	}
}

// P14.1: from a base.
func TestRelative(t *testing.T) {
	const from = "http://u:p@a.b:8080/c/d?q#f"
	for text, want := range map[string]string{
		// Nothing but a query, or a fragment.
		"": "http://u:p@a.b:8080/c/d?q", " \n ": "http://u:p@a.b:8080/c/d?q", "#": "http://u:p@a.b:8080/c/d?q#", "#g": "http://u:p@a.b:8080/c/d?q#g", "#g?h/..": "http://u:p@a.b:8080/c/d?q#g?h/..", "##": "http://u:p@a.b:8080/c/d?q##", "?": "http://u:p@a.b:8080/c/d?", "?r": "http://u:p@a.b:8080/c/d?r", "?r#g": "http://u:p@a.b:8080/c/d?r#g", "?#": "http://u:p@a.b:8080/c/d?#", "??'": "http://u:p@a.b:8080/c/d??%27", "?\\/": "http://u:p@a.b:8080/c/d?\\/", "#\\/": "http://u:p@a.b:8080/c/d?q#\\/",
		// A path.
		"e": "http://u:p@a.b:8080/c/e", "e/": "http://u:p@a.b:8080/c/e/", "e/f": "http://u:p@a.b:8080/c/e/f", "e\\f": "http://u:p@a.b:8080/c/e/f", "e?r#g": "http://u:p@a.b:8080/c/e?r#g", ".": "http://u:p@a.b:8080/c/", "./": "http://u:p@a.b:8080/c/", "./e": "http://u:p@a.b:8080/c/e", "..": "http://u:p@a.b:8080/", "../": "http://u:p@a.b:8080/", "../e": "http://u:p@a.b:8080/e", "../../e": "http://u:p@a.b:8080/e", "../../../..": "http://u:p@a.b:8080/", "..\\e": "http://u:p@a.b:8080/e", "%2e%2E/e": "http://u:p@a.b:8080/e", "%2e": "http://u:p@a.b:8080/c/", ".?r": "http://u:p@a.b:8080/c/?r", "..#g": "http://u:p@a.b:8080/#g", "...": "http://u:p@a.b:8080/c/...", "e//f": "http://u:p@a.b:8080/c/e//f", "e/..": "http://u:p@a.b:8080/c/", "e/../..": "http://u:p@a.b:8080/",
		":": "http://u:p@a.b:8080/c/:", "1:x": "http://u:p@a.b:8080/c/1:x", ":80": "http://u:p@a.b:8080/c/:80", "@": "http://u:p@a.b:8080/c/@", "v@w": "http://u:p@a.b:8080/c/v@w", "[": "http://u:p@a.b:8080/c/[", "e/x:y": "http://u:p@a.b:8080/c/e/x:y", "http": "http://u:p@a.b:8080/c/http", "e f": "http://u:p@a.b:8080/c/e%20f", "\u00E9:": "http://u:p@a.b:8080/c/%C3%A9:", "\xFF": "http://u:p@a.b:8080/c/%EF%BF%BD", "%": "http://u:p@a.b:8080/c/%",
		// A path from the root.
		"/": "http://u:p@a.b:8080/", "\\": "http://u:p@a.b:8080/", "/e": "http://u:p@a.b:8080/e", "\\e\\": "http://u:p@a.b:8080/e/", "/../e": "http://u:p@a.b:8080/e", "/..": "http://u:p@a.b:8080/", "/.": "http://u:p@a.b:8080/", "/?r": "http://u:p@a.b:8080/?r", "/#": "http://u:p@a.b:8080/#", "/?": "http://u:p@a.b:8080/?", "/e//": "http://u:p@a.b:8080/e//", "/%2e/e": "http://u:p@a.b:8080/e",
		// An authority.
		"//e": "http://e/", "\\\\e": "http://e/", "/\\e": "http://e/", "\\/e/f": "http://e/f", "///e": "http://e/", "//\\\\/e": "http://e/", "//v:w@e:80/f?r#g": "http://v:w@e/f?r#g", "//e:443": "http://e:443/", "//0x7f.1": "http://127.0.0.1/", "/\n/e": "http://e/",
		// The same scheme: but two slashes make an authority.
		"http:": "http://u:p@a.b:8080/c/d?q", "HTTP:": "http://u:p@a.b:8080/c/d?q", "http:#g": "http://u:p@a.b:8080/c/d?q#g", "http:?r": "http://u:p@a.b:8080/c/d?r", "http:e": "http://u:p@a.b:8080/c/e", "http:..": "http://u:p@a.b:8080/", "http:/": "http://u:p@a.b:8080/", "http:/e": "http://u:p@a.b:8080/e", "http:\\e": "http://u:p@a.b:8080/e", "http://e": "http://e/", "http:\\\\e": "http://e/", "http:/\\e": "http://e/", "http:\\/e": "http://e/", "http:///e": "http://e/", "http:/\\/e": "http://e/", "hTtP:e": "http://u:p@a.b:8080/c/e", "http:@e": "http://u:p@a.b:8080/c/@e", "http::80": "http://u:p@a.b:8080/c/:80", "http:http:": "http://u:p@a.b:8080/c/http:", "http:ftp:": "http://u:p@a.b:8080/c/ftp:", "http:https://e": "http://u:p@a.b:8080/c/https://e",
		// The other scheme: it is an authority, however many slashes there are.
		"https:e": "https://e/", "https:/e": "https://e/", "https://e": "https://e/", "https:\\e": "https://e/", "https:\\\\\\e": "https://e/", "HTTPS:e:443?r": "https://e/?r", "https:e/../f": "https://e/f", "https:v@e:80": "https://v@e:80/",
	} {
		checkText(t, text, base(t, from), want)
	}
	for _, c := range []struct{ from, text, want string }{
		{"http://a", "e", "http://a/e"}, {"http://a", "..", "http://a/"}, {"http://a", "", "http://a/"}, {"http://a", "?", "http://a/?"}, {"http://a", "#", "http://a/#"}, {"http://a", ".", "http://a/"}, {"http://a", "e/../../f", "http://a/f"},
		{"http://a/?", "", "http://a/?"}, {"http://a/?", "#", "http://a/?#"}, {"http://a/?", "e", "http://a/e"}, {"http://a/?", "/", "http://a/"}, {"http://a/#f", "", "http://a/"}, {"http://a/#f", "?r", "http://a/?r"}, {"http://a/#", "e", "http://a/e"}, {"http://a/?q", ".", "http://a/"},
		{"http://a/c/d/", "e", "http://a/c/d/e"}, {"http://a/c/d/", "..", "http://a/c/"}, {"http://a/c/d/", "../..", "http://a/"}, {"http://a/c/d/e/f", "../../g", "http://a/c/g"}, {"http://a//", "e", "http://a//e"}, {"http://a//", "..", "http://a/"}, {"http://a//b", "..", "http://a/"}, {"http://a/b//", "..", "http://a/b/"}, {"http://a/b/c", "%2E%2e", "http://a/"}, {"http://a/c/d", "../e", "http://a/e"},
		{"https://a/b", "http:c", "http://c/"}, {"https://a/b", "https:c", "https://a/c"}, {"https://a/b", "//c:443", "https://c/"}, {"https://a/b", "//c:80", "https://c:80/"}, {"https://a:80/b", "c", "https://a:80/c"}, {"http://[::1]:1/b", "c", "http://[::1]:1/c"}, {"http://127.0.0.1/b", "/c", "http://127.0.0.1/c"}, {"http://u@a/b", "/", "http://u@a/"}, {"http://:p@a/b", "#", "http://:p@a/b#"}, {"http://u:p@a/", "//b", "http://b/"},
	} {
		checkText(t, c.text, base(t, c.from), c.want)
	}
	checkError(t, "http:", base(t, "https://a:80/b"), api.ErrHost)
}

// P14.1: of a base that may be, but that no text is read as, all is taken as it stands.
func TestRelativeToWhatWasLaid(t *testing.T) {
	from := laid()[1]
	for text, want := range map[string]string{
		"": "http://a@b:/:\xFF c@[::1]:443/a b/%2e/\xFF\"/.? '\xFF?", "#g": "http://a@b:/:\xFF c@[::1]:443/a b/%2e/\xFF\"/.? '\xFF?#g", "?r": "http://a@b:/:\xFF c@[::1]:443/a b/%2e/\xFF\"/.?r", "e": "http://a@b:/:\xFF c@[::1]:443/a b/%2e/\xFF\"/e", "..": "http://a@b:/:\xFF c@[::1]:443/a b/%2e/", "/e": "http://a@b:/:\xFF c@[::1]:443/e",
	} {
		if u, e := hold(t, text, from, false); e != api.OK || u.Text() != want {
			t.Errorf("Parse(%q, %+v) = %q, %d, want %q", text, from, u.Text(), e, want)
		}
	}
}

// P14.1, P14.2: each byte at each place.
func TestEachByte(t *testing.T) {
	known := bases(t)
	for c := range 256 {
		b := string([]byte{byte(c)})
		for _, around := range [][2]string{
			{"", ""}, {"", "http://a/"}, {"h", "ttp://a/"}, {"http", "://a/"}, {"http:", "//a/"}, {"http:/", "/a/"}, {"http://", "a/"}, {"", ":a"}, {"http", ":a"},
			{"http://a", "b@c/"}, {"http://u:", "@c/"}, {"http://u:p", "q@c/"}, {"http://u@", "c/"}, {"http://a", "b/"}, {"http://a", "/"}, {"http://a", "80/"}, {"http://a:", "80/"}, {"http://a:8", "0/"}, {"http://a:80", "/"}, {"http://[", "::1]/"}, {"http://[::", "1]/"}, {"http://[::1]", "80/"}, {"http://[::1", ":80/"},
			{"http://a/", ""}, {"http://a/", "b"}, {"http://a/b", "c"}, {"http://a/b/.", "c"}, {"http://a/b/", ".."}, {"http://a/b/..", ""}, {"http://a/b/.", "./c"}, {"http://a/b/%2", "/c"}, {"http://a/b/%", "e"}, {"http://a?", ""}, {"http://a/?b", "c"}, {"http://a#", ""}, {"http://a/#b", "c"}, {"http://a/?b", "c#d"}, {"b", "c"}, {"b/", "c"}, {"?", "c"}, {"#", "c"}, {"/", "c"}, {"//", "c"}, {"..", "c"},
		} {
			holdAll(t, around[0]+b+around[1], known)
			holdAll(t, around[0]+b+b+around[1], known)
		}
	}
}

// P14.1, P14.2: all texts of a few parts, without a base and with each.
func TestAllShortTexts(t *testing.T) {
	parts := []string{"http:", "https:", "a", "/", "\\", "?", "#", "@", ":", ".", "%2e", "[", "]", "[::1]", "80", "\xFF"}
	known := bases(t)
	var list func(text string, more int)
	list = func(text string, more int) {
		holdAll(t, text, known)
		if more == 0 {
			return
		}
		for _, part := range parts {
			list(text+part, more-1)
		}
	}
	list("", 3)
	list("http://", 3)
	list("http://a/", 3)
}

// pick tells one of some texts; mostly one of those ahead of the bar.
func pick(next func(int) int, usual, rare string) string {
	from := strings.Split(usual, " ")
	if next(8) == 0 {
		from = strings.Split(rare, " ")
	}
	return from[next(len(from))]
}

// long tells a text whose parts are mostly right, of any sort.
func long(next func(int) int) string {
	text := pick(next, "http: https: HTTP:", " ftp: 1: : http hTtPs:: a.b: h\nttp:") + pick(next, "// // // / \\\\", " \\ /\\ /// /\t/ ////")
	if next(3) == 0 {
		text += pick(next, "u U:p :p u:", " : a@b u:p:q \u00E9 \xFF [ ;= %zz :: \x01") + "@"
	}
	text += pick(next, "a A.b a.b. 127.0.0.1 0x7f.1 [::1] [1::FFFF]", " . a..b 1.2.3.4.5 %31 \u00E9 xn--a [ ] [::1 [a] a[ %5B a%2fb \xFF a<")
	text += pick(next, " : :80 :443 :8080 :0 :65535", ":65536 :x :00080 :80: :: :-1 :\xFF :99999999999999999999")
	return text + tail(next)
}

// tail tells what may stand behind an authority.
func tail(next func(int) int) string {
	text := ""
	for range next(7) {
		text += pick(next, "/ / \\ a b . .. %2e %2E%2e .%2E ...", "// %2 e \t \u00E9 \xFF ' \" < > ^ ` { } | [ ] : @ ; = %zz \x00 \x7F")
	}
	if next(3) == 0 {
		text += "?" + pick(next, " q a=b&c ? / \\ ..", "' \" < > ` ^ { | } \u00E9 \xFF % \x01 @ :")
	}
	if next(3) == 0 {
		text += "#" + pick(next, " f ? # / \\ ..", "' \" < > ` ^ { | } \u00E9 \xFF % \x01 @ :")
	}
	return text
}

// P14.1, P14.2: many texts, each from what came of the ones ahead.
func TestManyTexts(t *testing.T) {
	next := chance()
	count := map[api.Errno]int{}
	from := base(t, "http://a.b/c/d")
	for range 100000 {
		text := long(next)
		if next(2) == 0 {
			text = tail(next)
		}
		if next(10) == 0 {
			text = " " + text + "\r\n"
		}
		_, e := hold(t, text, nil, true)
		count[e]++
		u, e := hold(t, text, from, true)
		count[e]++
		if e == api.OK && len(u.Text()) < 200 {
			from = &u
		}
	}
	for e, least := range map[api.Errno]int{api.OK: 50000, api.ErrScheme: 5000, api.ErrHost: 2000, api.ErrIDN: 1000, api.ErrPort: 1000} {
		if count[e] < least {
			t.Errorf("but %d of the texts are told %d", count[e], e)
		}
	}
}

// P14.1, P14.2, P1: texts of signs alone, at random.
func TestManySigns(t *testing.T) {
	const signs = "hTtps::://\\\\@@[]?#..%2eE0189aB-+ \t\n'\"\x00\x7F\x80\xC3\xA9\xFF"
	known := bases(t)
	next := chance()
	for range 100000 {
		text := make([]byte, next(14))
		for i := range text {
			text[i] = signs[next(len(signs))]
		}
		ahead := []string{"", "", "http:", "http://", "//", "https://a"}[next(6)]
		hold(t, ahead+string(text), known[next(len(known))], true)
		hold(t, ahead+string(text), laid()[next(3)], false)
	}
}

// P14.2: what is read is read again, with any base, and from its Bare but the fragment.
func TestReadAgain(t *testing.T) {
	known := bases(t)
	next := chance()
	for range 20000 {
		text := long(next)
		u, e := whatwg.Absolute(text)
		if e != api.OK {
			continue
		}
		bare := u
		bare.Fragment, bare.HasFragment = "", false
		for _, from := range append(laid(), known...) {
			if again, e := whatwg.Parse(u.Text(), from); e != api.OK || !url.Same(u, again) {
				t.Errorf("Parse(%q, %+v) = %+v, %d, want %+v", u.Text(), from, again, e, u)
			}
			if again, e := whatwg.Parse(u.Bare(), from); e != api.OK || !url.Same(bare, again) {
				t.Errorf("Parse(%q, %+v) = %+v, %d, want %+v", u.Bare(), from, again, e, bare)
			}
		}
	}
}

// P14.1
func TestChain(t *testing.T) {
	for _, c := range []struct {
		texts []string
		want  string
		e     api.Errno
	}{
		{[]string{"http://a/b?q#f"}, "http://a/b?q#f", api.OK},
		{[]string{"http://a/b?q#f", ""}, "http://a/b?q", api.OK},
		{[]string{"http://a/b?q#f", "c"}, "http://a/c", api.OK},
		{[]string{"http://a/b/", "c/d", "../e", "?q", "#f"}, "http://a/b/e?q#f", api.OK},
		{[]string{"http://a.b/c/d?x", "../e", "//u@h:1"}, "http://u@h:1/", api.OK},
		{[]string{"http://a.b/c/d", "https:e"}, "https://e/", api.OK},
		{[]string{"http://a", "https:b", "http:c", "http:d"}, "http://c/d", api.OK},
		{[]string{"http://a", "b/", "c/", "d/", "..", "e"}, "http://a/b/c/e", api.OK},
		{[]string{""}, "", api.ErrScheme},
		{[]string{"a", "http://a"}, "", api.ErrScheme},
		{[]string{"//a", "http://a", "http://b"}, "", api.ErrScheme},
		{[]string{"ftp://a", "http://"}, "", api.ErrScheme},
		{[]string{"http://", "ftp:"}, "", api.ErrHost},
		{[]string{"http://a", "//", "http://b"}, "", api.ErrHost},
		{[]string{"http://a", "//b:x", "ftp:"}, "", api.ErrPort},
		{[]string{"http://a", "b", "ftp:", "http://"}, "", api.ErrScheme},
		{[]string{"http://a", "b", "//xn--c"}, "", api.ErrIDN},
		{[]string{"http://a", "b", "c", strings.Repeat("d", 4097)}, "", api.ErrLong},
		{[]string{strings.Repeat("d", 4097), "ftp:"}, "", api.ErrLong},
	} {
		u, e := whatwg.Chain(c.texts[0], c.texts[1:]...)
		if e != c.e || e == api.OK && u.Text() != c.want || e != api.OK && !isZero(u) {
			t.Errorf("Chain(%q) = %+v, %d, want %q, %d", c.texts, u, e, c.want, c.e)
		}
	}
}

// P14.1: a chain is Parse of each one, by what came of the one ahead, as long as none has an error.
func TestManyChains(t *testing.T) {
	next := chance()
	ended := map[bool]int{}
	for range 50000 {
		texts := []string{long(next)}
		for range next(6) {
			if next(3) > 0 {
				texts = append(texts, tail(next))
			} else {
				texts = append(texts, long(next))
			}
		}
		want, e := read(texts[0], nil)
		for _, text := range texts[1:] {
			if e != api.OK {
				break
			}
			from := want
			want, e = read(text, &from)
		}
		got, err := whatwg.Chain(texts[0], texts[1:]...)
		if err != e || !url.Same(got, want) {
			t.Errorf("Chain(%q) = %+v, %d, want %+v, %d", texts, got, err, want, e)
		}
		ended[e == api.OK]++
	}
	if ended[true] < 5000 || ended[false] < 5000 {
		t.Errorf("%d of the chains have no error, %d have one", ended[true], ended[false])
	}
}

// The base is left as it was, spare room included, and what is read shares nothing with it.
func TestBaseIsLeft(t *testing.T) {
	for _, text := range []string{"", "#g", "?r", "e", "e/f/g", ".", "..", "../e", "../../..", "/", "/e/f", "//e", "//e/f/g", "http:", "http:e/f", "https:e", "ftp:", "//"} {
		room := []string{"b", "c", "", "spare", "room"}
		from := url.URL{Scheme: "http", User: "u", Host: domain.Name("a"), Port: 1, Path: room[:3], Query: "q", HasQuery: true, Fragment: "f", HasFragment: true}
		kept := from
		kept.Path = slices.Clone(from.Path)
		first, _ := whatwg.Parse(text, &from)
		second, _ := whatwg.Parse(text, &from)
		if !url.Same(from, kept) || !slices.Equal(room, []string{"b", "c", "", "spare", "room"}) {
			t.Errorf("Parse(%q) leaves %+v, and behind it %q", text, from, room)
		}
		again := slices.Clone(second.Path)
		for _, list := range [][]string{first.Path, first.Path[:cap(first.Path)]} {
			for i := range list {
				list[i] = "written"
			}
		}
		if !slices.Equal(room, []string{"b", "c", "", "spare", "room"}) || !slices.Equal(second.Path, again) {
			t.Errorf("what Parse(%q) answers shares memory: the base has %q, another answer %q", text, room, second.Path)
		}
		for i := range room {
			room[i] = "changed"
		}
		if !slices.Equal(second.Path, again) {
			t.Errorf("what Parse(%q) answers keeps the base's path: %q", text, second.Path)
		}
	}
}

// No call panics, also of a base that may not be.
func TestNoneOfTheCallsPanics(t *testing.T) {
	for _, from := range []url.URL{{}, {Scheme: "http"}, {Scheme: "https", Path: []string{}}, {Scheme: "ftp", Port: -7, Path: []string{"/"}}, {Scheme: "http", Host: domain.Name(""), Path: []string{"", "?"}}} {
		for _, text := range []string{"", "#", "?", "/", "//", "a", "..", "../..", "http:", "http:..", "https:..", "http://a"} {
			whatwg.Parse(text, &from)
		}
	}
	for _, part := range []string{"/", "../", "@", ":", "[", "]", "%", "?", "#", ".", "\xFF", "\x00", "0", "a"} {
		for _, ahead := range []string{"", "http:", "http://", "http://a/", "http://a:", "http://["} {
			text := ahead + strings.Repeat(part, (4096-len(ahead))/len(part))
			for _, from := range append(laid(), bases(t)...) {
				whatwg.Parse(text, from)
			}
			hold(t, text, base(t, "http://a/b/c"), true)
			whatwg.Chain("http://a", text, text, text)
			whatwg.Absolute(strings.Repeat(text, 20))
		}
	}
}
