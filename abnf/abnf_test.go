package abnf_test

import (
	"strings"
	"testing"

	"mantrap/abnf"
	"mantrap/api"
)

// hold holds Parse against the model, and against what follows of it.
func hold(t *testing.T, s string) (abnf.Parts, api.Errno) {
	t.Helper()
	p, e := abnf.Parse(s)
	want, wantedError := read(s)
	switch {
	case p != want || e != wantedError:
		t.Errorf("Parse(%q) = %+v, %d, want %+v, %d", s, p, e, want, wantedError)
	case e != api.OK && p != abnf.Parts{}:
		t.Errorf("Parse(%q) = %+v beside %d", s, p, e)
	case e == api.OK && p.Text() != s:
		t.Errorf("Text of Parse(%q) = %q", s, p.Text())
	case e == api.OK && !p.Right():
		t.Errorf("Parse(%q) = %+v, which isn't right", s, p)
	}
	return p, e
}

// holdParts holds Text and Right against the model.
func holdParts(t *testing.T, p abnf.Parts) bool {
	t.Helper()
	text := p.Text()
	if want := write(p); text != want {
		t.Errorf("Text of %+v = %q, want %q", p, text, want)
	}
	found, e := read(text)
	want := e == api.OK && found == p
	if p.Right() != want {
		t.Errorf("Right of %+v, which is %q, = %v, want %v", p, text, !want, want)
	}
	return want
}

// holdIs holds Is against the model.
func holdIs(t *testing.T, s, of string) {
	t.Helper()
	if got, want := abnf.Is(s, of), is(s, of); got != want {
		t.Errorf("Is(%q, %q) = %v, want %v", s, of, got, want)
	}
}

// chance tells a source of numbers that look like chance, the same ones at each run.
func chance() func(below int) int {
	state := uint64(1)
	return func(below int) int {
		state = state*6364136223846793005 + 1442695040888963407
		return int((state >> 33) % uint64(below))
	}
}

// P15.1: the parts, one by one.
func TestParts(t *testing.T) {
	for s, want := range map[string]abnf.Parts{
		"": {},
		// Each part alone.
		"a:":  {Scheme: "a", HasScheme: true},
		"//":  {HasAuthority: true},
		"//a": {Host: "a", HasAuthority: true},
		"/":   {Path: "/"},
		"a":   {Path: "a"},
		"?":   {HasQuery: true},
		"?q":  {Query: "q", HasQuery: true},
		"#":   {HasFragment: true},
		"#f":  {Fragment: "f", HasFragment: true},
		// All of them.
		"http://u@a.b:8/x?y#z":                  {Scheme: "http", HasScheme: true, User: "u", HasUser: true, Host: "a.b", HasAuthority: true, Port: "8", HasPort: true, Path: "/x", Query: "y", HasQuery: true, Fragment: "z", HasFragment: true},
		"HtTp+1-.://U:p%4a@[::FFFF]:080/X/?Y?#": {Scheme: "HtTp+1-.", HasScheme: true, User: "U:p%4a", HasUser: true, Host: "[::FFFF]", HasAuthority: true, Port: "080", HasPort: true, Path: "/X/", Query: "Y?", HasQuery: true, HasFragment: true},
		"a://@:?#":                              {Scheme: "a", HasScheme: true, HasUser: true, HasAuthority: true, HasPort: true, HasQuery: true, HasFragment: true},
		// Each pair of neighbours.
		"a://b":  {Scheme: "a", HasScheme: true, Host: "b", HasAuthority: true},
		"a:b":    {Scheme: "a", HasScheme: true, Path: "b"},
		"a:/b":   {Scheme: "a", HasScheme: true, Path: "/b"},
		"a:?b":   {Scheme: "a", HasScheme: true, Query: "b", HasQuery: true},
		"a:#b":   {Scheme: "a", HasScheme: true, Fragment: "b", HasFragment: true},
		"//a@b":  {User: "a", HasUser: true, Host: "b", HasAuthority: true},
		"//a:1":  {Host: "a", HasAuthority: true, Port: "1", HasPort: true},
		"//a@:1": {User: "a", HasUser: true, HasAuthority: true, Port: "1", HasPort: true},
		"//a/b":  {Host: "a", HasAuthority: true, Path: "/b"},
		"//a?b":  {Host: "a", HasAuthority: true, Query: "b", HasQuery: true},
		"//a#b":  {Host: "a", HasAuthority: true, Fragment: "b", HasFragment: true},
		"a?b":    {Path: "a", Query: "b", HasQuery: true},
		"a#b":    {Path: "a", Fragment: "b", HasFragment: true},
		"?a#b":   {Query: "a", HasQuery: true, Fragment: "b", HasFragment: true},
		// Colons that end no scheme.
		"/a:b":  {Path: "/a:b"},
		"a/b:c": {Path: "a/b:c"},
		"?a:b":  {Query: "a:b", HasQuery: true},
		"a?b:c": {Path: "a", Query: "b:c", HasQuery: true},
		"#a:b":  {Fragment: "a:b", HasFragment: true},
		"a#b:":  {Path: "a", Fragment: "b:", HasFragment: true},
		"/:":    {Path: "/:"},
		// Colons behind the one that does.
		"a:b:c": {Scheme: "a", HasScheme: true, Path: "b:c"},
		"a::":   {Scheme: "a", HasScheme: true, Path: ":"},
		"a::/b": {Scheme: "a", HasScheme: true, Path: ":/b"},
		// Authorities.
		"//@":                 {HasUser: true, HasAuthority: true},
		"//u@":                {User: "u", HasUser: true, HasAuthority: true},
		"//:":                 {HasAuthority: true, HasPort: true},
		"//:1":                {HasAuthority: true, Port: "1", HasPort: true},
		"//@:":                {HasUser: true, HasAuthority: true, HasPort: true},
		"//:@":                {User: ":", HasUser: true, HasAuthority: true},
		"//u:p@a":             {User: "u:p", HasUser: true, Host: "a", HasAuthority: true},
		"//u:p:q@a:":          {User: "u:p:q", HasUser: true, Host: "a", HasAuthority: true, HasPort: true},
		"//u:1@a":             {User: "u:1", HasUser: true, Host: "a", HasAuthority: true},
		"//a:00000000000":     {Host: "a", HasAuthority: true, Port: "00000000000", HasPort: true},
		"//a:99999999999":     {Host: "a", HasAuthority: true, Port: "99999999999", HasPort: true},
		"//a-._~!$&'()*+,;=b": {Host: "a-._~!$&'()*+,;=b", HasAuthority: true},
		"//%00%fF%Ff":         {Host: "%00%fF%Ff", HasAuthority: true},
		"//1.2.3.4":           {Host: "1.2.3.4", HasAuthority: true},
		"//[::1]":             {Host: "[::1]", HasAuthority: true},
		"//[::1]:":            {Host: "[::1]", HasAuthority: true, HasPort: true},
		"//[::1]:8":           {Host: "[::1]", HasAuthority: true, Port: "8", HasPort: true},
		"//u@[::1]":           {User: "u", HasUser: true, Host: "[::1]", HasAuthority: true},
		"//[v1.a:b]:1":        {Host: "[v1.a:b]", HasAuthority: true, Port: "1", HasPort: true},
		// Paths.
		"a:///b":       {Scheme: "a", HasScheme: true, HasAuthority: true, Path: "/b"},
		"////b//":      {HasAuthority: true, Path: "//b//"},
		"//a//b":       {Host: "a", HasAuthority: true, Path: "//b"},
		"/a//b":        {Path: "/a//b"},
		"/.//b":        {Path: "/.//b"},
		"a//b":         {Path: "a//b"},
		"a:b//c":       {Scheme: "a", HasScheme: true, Path: "b//c"},
		"//a/b:c@d/..": {Host: "a", HasAuthority: true, Path: "/b:c@d/.."},
		"@":            {Path: "@"},
		"./a:b":        {Path: "./a:b"},
		// Queries and fragments.
		"?/?:@":   {Query: "/?:@", HasQuery: true},
		"#/?:@":   {Fragment: "/?:@", HasFragment: true},
		"?//a":    {Query: "//a", HasQuery: true},
		"??":      {Query: "?", HasQuery: true},
		"#?":      {Fragment: "?", HasFragment: true},
		"?#":      {HasQuery: true, HasFragment: true},
		"//a?b@c": {Host: "a", HasAuthority: true, Query: "b@c", HasQuery: true},
		"//a#b@c": {Host: "a", HasAuthority: true, Fragment: "b@c", HasFragment: true},
		"//a?b/c": {Host: "a", HasAuthority: true, Query: "b/c", HasQuery: true},
	} {
		if p, e := hold(t, s); p != want || e != api.OK {
			t.Errorf("Parse(%q) = %+v, %d, want %+v", s, p, e, want)
		}
	}
}

// P15.1: what is refused, each fault at each place where it may be.
func TestErrors(t *testing.T) {
	for want, texts := range map[api.Errno][]string{
		api.ErrScheme: {
			":", "::", ":a", "://a", ":/", ":?", ":#", "1:x", "1a:", "+:", "-a:", ".:", "a b:", "a_b:c", "a~:", "a%41:", "%41:", "a@b:c", "[::1]", "a\\:", "\xFF:", "a\u00E9:", "\u00E9:", " a:", "a :", "a\x00:", "a[:", "a!:", "a*b:",
			// Whatever stands behind.
			"1:%zz", ":\xFF", "1://[", "1:a b?\"#^#",
		},
		api.ErrGrammar: {
			// Signs that no part has.
			"http://a b", "http://a\\b/", "a:b c", " ", "a b", "\"", "<", ">", "\\", "^", "`", "{", "|", "}", "\x00", "\x1F", "\x7F", "\x80", "\xFF", "\u00E9", "\uFFFD", "\u212A", "/ ", "/\n", "?\n", "#\n", "//a\n", "//a:1\n", "a:\n", "\n",
			// What is almost a pct.
			"%", "%4", "%4g", "%g4", "%zz", "%%", "%%41", "%4%41", "a%", "/%", "?%", "?%4", "?%4g#", "#%", "#%g4", "//%", "//%4", "//%4/1", "//%g@a", "//a%/41", "//a%4:1", "%\xFF1", "%4\u0661", "//a/%zz", "a:%4?1", "?%4#1", "?%2F#%3",
			// Authorities.
			"//a@b@c", "//@@", "//a@b@", "//a:b:c", "//a::", "//::", "//::1", "//a:1:", "//:1:", "//u@a:b:1", "//u@a:1@", "//a:x", "//a:1x", "//a:-1", "//a:+1", "//a: 1", "//a:1 ", "//a:%31", "//a:\u0661", "//a:\xFF", "//a:.", "//a:1.0",
			"//[", "//]", "//[]", "//[]:1", "//][", "//[a", "//a]", "//a[", "//a]b", "//[::1", "//::1]", "//[::1]]", "//[[::1]]", "//[[::1]", "//[::1]a", "//a[::1]", "//[::1]1", "//[::1]:a", "//[::1]::", "//[::1]:1:", "//[::1]:1:2", "//[::1]:1]", "//[::1]:]", "//[:::1]", "//[u@::1]", "//[::1]@a", "//[@]", "//u:[@", "//u[@a", "//u]@a", "//[::1]%31", "//[:", "//]:", "//]:1", "//[]]", "//:[::1]", "//[::1:8", "//[::1/]", "//[::1?]", "//[::1#]",
			"//[1]", "//[a]", "//[1.2.3.4]", "//[:]", "//[::1::]", "//[1:2:3:4:5:6:7]", "//[1:2:3:4:5:6:7:8:9]", "//[12345::]", "//[g::]", "//[::1.2.3]", "//[::1.2.3.256]", "//[::01.2.3.4]", "//[::1.2.3.4:5]", "//[::1%25a]", "//[::1%a]", "//[ ::1]", "//[::1 ]", "//[%3a:1]", "//[::-1]", "//[1:]", "//[:1]",
			"//[v]", "//[v1]", "//[v.]", "//[v1.]", "//[v.a]", "//[1.a]", "//[vg.a]", "//[v1g.a]", "//[v1.a%41]", "//[v1.%]", "//[v1.a@b]", "//[v1.a b]", "//[v1.a/b]", "//[v1.[a]", "//[v1.a]]", "//[v1.\u00E9]", "//[v1.\xFF]", "//[v\uFF11.a]", "//[w1.a]", "//[vv1.a]", "//[v 1.a]", "//[v1:a]", "//[v%31.a]", "//[v-1.a]", "//[.a]", "//[v1.a\n]", "//[v1\n.a]",
			// Queries and fragments.
			"?[", "?]", "?a b", "?\xFF", "?\u00E9", "?\x00", "#[", "#]", "##", "#a#b", "#a#", "?#a#", "# ", "#\xFF", "#\u00E9", "#\x7F", "/[", "/]", "a[b]", "/[::1]", "a:[",
			// Several at once.
			"//[:x/%?\"#^#", "a://\x00@[]:x/\xFF? #%", "//a@b@c:d:e",
		},
	} {
		for _, s := range texts {
			if _, e := hold(t, s); e != want {
				t.Errorf("Parse(%q) = %d, want %d", s, e, want)
			}
		}
	}
}

// P15.1: what may stand between [ and ].
func TestInside(t *testing.T) {
	for _, s := range []string{
		"::", "::1", "1::", "1::2", "1:2:3:4:5:6:7:8", "1:2:3:4:5:6:7::", "::2:3:4:5:6:7:8", "1:2:3::5:6:7:8", "ABCD:ef01::", "0000:0001::", "::1.2.3.4", "::ffff:1.2.3.4", "1:2:3:4:5:6:1.2.3.4", "1::255.255.255.255", "::0.0.0.0",
		"v1.a", "V1.a", "vA.a", "vF.a", "vaf09AF.a", "v0.:", "v1.::1", "v1.a.b", "v1..", "v1.-._~!$&'()*+,;=:Az09", "v" + strings.Repeat("1", 4000) + ".a",
	} {
		for ahead, behind := range map[string]string{"//": "", "//u:@": ":", "a://@": ":80/", "A:/" + "/u@": "?q"} {
			p, e := hold(t, ahead+"["+s+"]"+behind)
			if e != api.OK || p.Host != "["+s+"]" {
				t.Errorf("the host of Parse(%q) = %q, %d", ahead+"["+s+"]"+behind, p.Host, e)
			}
		}
	}
}

// P15.1: of more than 4096 bytes, ahead of all other faults.
func TestLong(t *testing.T) {
	for _, s := range []string{"a", "/", "http://a/", "http://a?", "#", "//", "//a:", "//u@", "a:", "?%41"} {
		for size, want := range map[int]api.Errno{4095: api.OK, 4096: api.OK, 4097: api.ErrLong, 8192: api.ErrLong} {
			if _, e := hold(t, s+strings.Repeat("1", size-len(s))); e != want {
				t.Errorf("Parse(%q and so on) of %d bytes = %d, want %d", s, size, e, want)
			}
		}
	}
	for s, short := range map[string]api.Errno{"1:": api.ErrScheme, "\xFF": api.ErrGrammar, ":": api.ErrScheme, "a:%zz": api.ErrGrammar} {
		for size, want := range map[int]api.Errno{4096: short, 4097: api.ErrLong} {
			if _, e := hold(t, s+strings.Repeat("a", size-len(s))); e != want {
				t.Errorf("Parse(%q and so on) of %d bytes = %d, want %d", s, size, e, want)
			}
		}
	}
}

// P15.1, P15.3: each byte at each place.
func TestEachByte(t *testing.T) {
	for c := range 256 {
		b := string([]byte{byte(c)})
		for _, around := range [][2]string{
			{"", ""}, {"", ":"}, {"a", ":"}, {"", "a:b"}, {"a", "b://c"}, {"a:", ""}, {"a:", "b"}, {"a:/", ""}, {"a:/", "/b"}, {"", "//a"}, {"/", "/a"}, {"//", ""}, {"//", "a"},
			{"//a", "b@c"}, {"//u", ":p@c"}, {"//u@", "c"}, {"//u@", "@c"}, {"//a", "b"}, {"//a", ":1"}, {"//a:", ""}, {"//a:", "1"}, {"//a:1", ""}, {"//a:1", "2/"},
			{"//", "[::1]"}, {"//[", "::1]"}, {"//[::", "]"}, {"//[::1", "]"}, {"//[::1]", ""}, {"//[::1]", ":1"}, {"//[::1]:", ""}, {"//[::1", ""}, {"//[::1.2.3", "4]"}, {"//[", "1.a]"}, {"//[v", ".a]"}, {"//[v1", "a]"}, {"//[v1.", "]"}, {"//[v1.a", "b]"},
			{"/", ""}, {"/a", "b"}, {"a", ""}, {"a", "b:c"}, {"a", "/b:c"}, {"//a", "/b"}, {"//a/", "b"}, {"/%", "1"}, {"/%4", ""}, {"/%4", "1"}, {"//%", "1"}, {"//%4", "@a"}, {"?%", "f"}, {"?", ""}, {"?a", "b"}, {"#", ""}, {"#a", "b"}, {"#%A", ""}, {"?a", "#b"}, {"a", "?b"}, {"a", "#b"},
		} {
			hold(t, around[0]+b+around[1])
			hold(t, around[0]+b+b+around[1])
		}
	}
}

// P15.1, P15.3: all texts of a few signs.
func TestAllShortTexts(t *testing.T) {
	signs := []string{"a", "1", ":", "/", "?", "#", "@", "[", "]", "%41", "%", "[::1]", "\xFF"}
	var list func(s string, more int)
	list = func(s string, more int) {
		hold(t, s)
		if more == 0 {
			return
		}
		for _, sign := range signs {
			list(s+sign, more-1)
		}
	}
	list("", 4)
	list("//", 4)
	list("a://", 3)
}

// pick tells one of some texts; mostly one of those ahead of the bar.
func pick(next func(int) int, usual, rare string) string {
	from := strings.Split(usual, " ")
	if next(12) == 0 {
		from = strings.Split(rare, " ")
	}
	return from[next(len(from))]
}

// piece tells signs that most parts may have.
func piece(next func(int) int, usual, rare string) string {
	s := ""
	for range next(4) {
		s += pick(next, "a Bc 9 - . _ ~ ! $ & ' ( ) * + , ; = %41 %fF"+usual, rare+" \" < > \\ ^ ` { | } \x01 \x7F \xFF \u00E9 % %4 %zz [ ]")
	}
	return s
}

// parts tells parts that are mostly right.
func parts(next func(int) int) abnf.Parts {
	p := abnf.Parts{HasScheme: next(2) == 0, HasAuthority: next(2) == 0, HasQuery: next(2) == 0, HasFragment: next(2) == 0}
	if p.HasScheme {
		p.Scheme = pick(next, "a http HTTPS a1+-.", " 1 a: a/ a_ + \u00E9 a?b")
	}
	if p.HasAuthority {
		p.HasUser, p.HasPort = next(2) == 0, next(2) == 0
		p.Host = piece(next, "", ": @ / ? #")
		if next(4) == 0 {
			p.Host = pick(next, "[::1] [1::FFFF] [::1.2.3.4] [v1.a:b]", "[] [ ] [:::] [v1.%41] [v.a] [::1]a a[::1] [v1.a]]")
		}
	}
	if p.HasUser {
		p.User = piece(next, " :", "@ / ? #")
	}
	if p.HasPort {
		p.Port = pick(next, " 0 80 0080 65536 99999999999999999999", "a -1 : 1:2 1/ 1@a 8] %31 \u0661")
	}
	p.Path = pick(next, " / /", "// /// .") + piece(next, " / @ /", ": ? # //")
	if p.HasQuery {
		p.Query = piece(next, " / ? : @", "#")
	}
	if p.HasFragment {
		p.Fragment = piece(next, " / ? : @", "#")
	}
	return p
}

// P15.1, P15.2, P15.3: many parts, and the texts that they are put together to.
func TestManyParts(t *testing.T) {
	next := chance()
	right, count := 0, map[api.Errno]int{}
	for range 150000 {
		p := parts(next)
		if holdParts(t, p) {
			right++
		}
		_, e := hold(t, p.Text())
		count[e]++
	}
	for e, least := range map[api.Errno]int{api.OK: 60000, api.ErrScheme: 3000, api.ErrGrammar: 20000} {
		if count[e] < least {
			t.Errorf("but %d of the texts are told %d", count[e], e)
		}
	}
	if right < 40000 {
		t.Errorf("but %d of the parts are right", right)
	}
}

// P15.1, P15.3, P1: texts of signs alone, at random.
func TestManySigns(t *testing.T) {
	const signs = "aZvV019fg::://///??##@@[[]]%%..-+!, \n\"\\\x00\x7F\x80\xC3\xA9\xFF"
	next := chance()
	for range 150000 {
		s := make([]byte, next(14))
		for i := range s {
			s[i] = signs[next(len(signs))]
		}
		hold(t, string(s))
		hold(t, []string{"a:", "//", "a://", "//[", "//u@"}[next(5)]+string(s))
	}
}

// P15.2: what is there is put together, in order, whatever the texts of the others.
func TestText(t *testing.T) {
	full := abnf.Parts{Scheme: "s", User: "u", Host: "h", Port: "1", Path: "p", Query: "q", Fragment: "f"}
	for want, has := range map[string]func(p *abnf.Parts){
		"p":              func(p *abnf.Parts) {},
		"s:p":            func(p *abnf.Parts) { p.HasScheme = true },
		"//hp":           func(p *abnf.Parts) { p.HasAuthority = true },
		"//u@hp":         func(p *abnf.Parts) { p.HasAuthority, p.HasUser = true, true },
		"//h:1p":         func(p *abnf.Parts) { p.HasAuthority, p.HasPort = true, true },
		"p?q":            func(p *abnf.Parts) { p.HasQuery, p.HasUser, p.HasPort = true, true, true },
		"p#f":            func(p *abnf.Parts) { p.HasFragment = true },
		"s://u@h:1p?q#f": func(p *abnf.Parts) { *p = all(*p) },
	} {
		p := full
		has(&p)
		if holdParts(t, p) || p.Text() != want {
			t.Errorf("Text of %+v = %q, right, or not %q", p, p.Text(), want)
		}
	}
	for p, want := range map[abnf.Parts]string{
		{}:                "",
		all(abnf.Parts{}): "://@:?#",
		all(abnf.Parts{Scheme: ":", User: "@", Host: "/", Port: "x", Path: "\xFF", Query: "#", Fragment: "?"}): ":://@@/:x\xFF?##?",
	} {
		holdParts(t, p)
		if p.Text() != want {
			t.Errorf("Text of %+v = %q, want %q", p, p.Text(), want)
		}
	}
}

// all tells the parts, each of them there.
func all(p abnf.Parts) abnf.Parts {
	p.HasScheme, p.HasUser, p.HasAuthority, p.HasPort, p.HasQuery, p.HasFragment = true, true, true, true, true, true
	return p
}

// P15.2
func TestRight(t *testing.T) {
	http := abnf.Parts{Scheme: "http", HasScheme: true, Host: "a", HasAuthority: true, Path: "/"}
	for name, c := range map[string]struct {
		of   abnf.Parts
		want bool
	}{
		"nothing":                         {abnf.Parts{}, true},
		"a URL":                           {http, true},
		"a path":                          {abnf.Parts{Path: "a/b:c"}, true},
		"an empty authority":              {abnf.Parts{HasAuthority: true, Path: "//a"}, true},
		"a fragment that isn't there":     {abnf.Parts{Path: "a", Fragment: "f"}, false},
		"a query that isn't there":        {abnf.Parts{Path: "a", Query: "q"}, false},
		"a scheme that isn't there":       {abnf.Parts{Path: "a", Scheme: "s"}, false},
		"a host that isn't there":         {abnf.Parts{Path: "a", Host: "h"}, false},
		"a port that isn't there":         {abnf.Parts{Host: "h", HasAuthority: true, Port: "1"}, false},
		"a user who isn't there":          {abnf.Parts{Host: "h", HasAuthority: true, User: "u"}, false},
		"a user without authority":        {abnf.Parts{Path: "a", HasUser: true}, false},
		"a port without authority":        {abnf.Parts{Path: "a", HasPort: true}, false},
		"a path that is a scheme's":       {abnf.Parts{Path: "a:b"}, false},
		"a path that is no scheme's":      {abnf.Parts{Path: "1:b"}, false},
		"a path with a colon behind":      {abnf.Parts{Scheme: "a", HasScheme: true, Path: "b:c"}, true},
		"a path that is an authority's":   {abnf.Parts{Path: "//a"}, false},
		"such a one behind a scheme":      {abnf.Parts{Scheme: "a", HasScheme: true, Path: "//b"}, false},
		"a path that is the host's":       {abnf.Parts{HasAuthority: true, Host: "a", Path: "b"}, false},
		"a path that is the port's":       {abnf.Parts{HasAuthority: true, Host: "a", HasPort: true, Path: "1"}, false},
		"a path that is a query's":        {abnf.Parts{Path: "a?b"}, false},
		"a path that is a fragment's":     {abnf.Parts{Path: "a#b"}, false},
		"a query that is a fragment's":    {abnf.Parts{HasQuery: true, Query: "a#b"}, false},
		"a host that is a user's":         {abnf.Parts{HasAuthority: true, Host: "a@b"}, false},
		"a user that is another one's":    {abnf.Parts{HasAuthority: true, HasUser: true, User: "a@", Host: "b"}, false},
		"a host that has a port":          {abnf.Parts{HasAuthority: true, Host: "a:1"}, false},
		"a host that has a path":          {abnf.Parts{HasAuthority: true, Host: "a/b"}, false},
		"a port that has a path":          {abnf.Parts{HasAuthority: true, Host: "a", HasPort: true, Port: "1/"}, false},
		"a scheme that has a path":        {abnf.Parts{HasScheme: true, Scheme: "a:b", Path: "c"}, false},
		"a scheme that isn't one":         {abnf.Parts{HasScheme: true, Scheme: "1"}, false},
		"an empty scheme":                 {abnf.Parts{HasScheme: true}, false},
		"a sign that no path has":         {abnf.Parts{Path: "a b"}, false},
		"a host that isn't one":           {abnf.Parts{HasAuthority: true, Host: "[::1"}, false},
		"a fragment with a number sign":   {abnf.Parts{HasFragment: true, Fragment: "#"}, false},
		"a user and a host with brackets": {abnf.Parts{HasAuthority: true, HasUser: true, User: "[v1.a", Host: "b]"}, false},
		"a path that ends in a colon":     {abnf.Parts{HasScheme: true, Scheme: "a", Path: "b:"}, true},
		"a path of two slashes":           {abnf.Parts{Path: "//", HasQuery: true}, false},
	} {
		if got := holdParts(t, c.of); got != c.want || c.of.Right() != c.want {
			t.Errorf("Right of %s, %q, = %v, want %v", name, c.of.Text(), c.of.Right(), c.want)
		}
	}
}

// P15.2: what Parse refuses for its length is no reference of any parts.
func TestRightOfLongParts(t *testing.T) {
	for size, want := range map[int]bool{4096: true, 4097: false} {
		for _, p := range []abnf.Parts{
			{Path: strings.Repeat("a", size)},
			{Scheme: "a", HasScheme: true, Fragment: strings.Repeat("a", size-3), HasFragment: true},
			{HasAuthority: true, Host: strings.Repeat("a", size/2), Path: "/" + strings.Repeat("a", size-size/2-3)},
		} {
			if got := holdParts(t, p); got != want || p.Right() != want || len(p.Text()) != size {
				t.Errorf("Right of parts of %d bytes = %v", len(p.Text()), p.Right())
			}
		}
	}
}

// P15.2
func TestIs(t *testing.T) {
	const known = "ABCDEFGHIJKLMNOPQRSTUVWXYZabcdefghijklmnopqrstuvwxyz0123456789-._~!$&'()*+,;="
	for _, c := range []struct {
		s, of string
		want  bool
	}{
		{"", "", true}, {"", ":", true}, {known, "", true}, {known + ":", "", false}, {known + ":", ":", true}, {"a:b@c", ":@", true}, {"a:b@c", "@", false}, {"@@::", ":@", true},
		{"%41", "", true}, {"%fF%Af", "", true}, {"%", "", false}, {"%4", "", false}, {"%4g", "", false}, {"%g4", "", false}, {"%%41", "", false}, {"%41%", "", false}, {"%4%411", "", false},
		{"%", "%", true}, {"%zz", "%", true}, {"%%41", "%", true}, {"%:", "%", false}, {"%4", "4", false}, {"%41", "41", true}, {"%:1", ":", false}, {"%4:", ":", false},
		{"a b", " ", true}, {"a b", "", false}, {"a/b", "/", true}, {"\x00", "\x00", true}, {"\x00", "", false}, {"[]", "[]", true}, {"[]", "[", false}, {"#", "#", true}, {"a\n", "", false}, {"a\n", "\n", true},
		// The bytes of a text, not its code points.
		{"\u00E9", "", false}, {"\u00E9", "\u00E9", true}, {"\u00E9", "\xA9\xC3", true}, {"\xC3", "\u00E9", true}, {"\xA9", "\u00E9", true}, {"\xC3\xC3\xA9\xA9", "\u00E9", true}, {"\u00E9", "\xC3", false}, {"\u00E9", "\xA9", false}, {"\u00E8", "\u00E9", false}, {"\u20AC", "\xE2\xAC", false}, {"\u20AC", "\xE2\x82\xAC", true}, {"\U0001F600", "\x80\x98\x9F\xF0", true}, {"\U0001F600", "\x80\x98\x9F", false},
		{"\xFF", "\xFE", false}, {"\xFF", "\uFFFD", false}, {"\xFF", "a\xFF", true}, {"\uFFFD", "\xFF", false}, {"\uFFFD", "\uFFFD", true}, {"\uFFFD", "\xEF\xBF\xBD", true}, {"\xEF", "\uFFFD", true}, {"\xFF\xFE", "\xFE", false}, {"%\xC3\xA9", "\u00E9", false}, {"%41\xFF", "\xFF", true}, {"\u0141", "", false}, {"\u212A", "Kk", false},
	} {
		holdIs(t, c.s, c.of)
		if got := abnf.Is(c.s, c.of); got != c.want {
			t.Errorf("Is(%q, %q) = %v, want %v", c.s, c.of, got, c.want)
		}
	}
	for r := rune(0x80); r < 0x20000; r++ { // none beyond ASCII, whatever it looks like
		if abnf.Is(string(r), "") {
			t.Errorf("Is(%q) = true", r)
		}
	}
}

// P15.2: all short texts, by many lists.
func TestIsOfShortTexts(t *testing.T) {
	lists := []string{"", ":", "@:/", "%", "4", "a", " ", "\x00\xFF", "\u00E9", "\xA9", "\xC3", "\uFFFD", "%:\u20AC"}
	for a := range 256 {
		for _, of := range append(lists, string([]byte{byte(a)})) {
			holdIs(t, string([]byte{byte(a)}), of)
			holdIs(t, "%4"+string([]byte{byte(a)}), of)
			holdIs(t, "%"+string([]byte{byte(a)})+"F", of)
		}
		for b := range 256 {
			for _, of := range lists {
				holdIs(t, string([]byte{byte(a), byte(b)}), of)
			}
		}
	}
	const signs = "aG4f%%%:@ \x00\xC3\xA9\xE2\x82\xAC\xEF\xBF\xBD\xFF"
	next := chance()
	for range 100000 {
		s := make([]byte, next(9))
		for i := range s {
			s[i] = signs[next(len(signs))]
		}
		of := make([]byte, next(5))
		for i := range of {
			of[i] = signs[next(len(signs))]
		}
		holdIs(t, string(s), string(of))
	}
}
