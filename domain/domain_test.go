package domain_test

import (
	"regexp"
	"slices"
	"strings"
	"testing"

	"mantrap/api"
	"mantrap/domain"
)

// plain are the signs that a name may have, beside the point; forbidden those that it may not.
const (
	plain     = "abcdefghijklmnopqrstuvwxyz0123456789!$&'()*+,-;=_~"
	great     = "ABCDEFGHIJKLMNOPQRSTUVWXYZ"
	forbidden = "\"#%/:<>?@[\\]^`{|}"
)

const label = "[a-z0-9!$&'()*+,;=_~-]{1,63}"

var (
	shape = regexp.MustCompile(`\A` + label + `(\.` + label + `)*\.?\z`)
	coded = regexp.MustCompile(`(\A|\.)xn--`)
)

// canon tells what Canon has to, by expressions.
func canon(s string) (domain.Name, api.Errno) {
	if strings.ContainsFunc(s, func(r rune) bool { return r > 0x7F }) { // FFFD as well, for what isn't right
		return "", api.ErrIDN
	}
	small := strings.ToLower(s) // of ASCII alone it changes nothing but A to Z
	switch {
	case !shape.MatchString(small) || len(strings.TrimSuffix(small, ".")) > 253:
		return "", api.ErrHost
	case coded.MatchString(small):
		return "", api.ErrIDN
	}
	return domain.Name(small), api.OK
}

// check holds Canon and Right of a text against what they have to tell.
func check(t *testing.T, s string, want domain.Name, e api.Errno) {
	t.Helper()
	if got, err := domain.Canon(s); got != want || err != e {
		t.Errorf("Canon(%q) = %q, %d, want %q, %d", s, got, err, want, e)
	}
	if got, want := domain.Right(s), e == api.OK && string(want) == s; got != want {
		t.Errorf("Right(%q) = %v, want %v", s, got, want)
	}
}

// chance tells a source of numbers that look like chance, the same ones at each run.
func chance() func(below int) int {
	state := uint64(1)
	return func(below int) int {
		state = state*6364136223846793005 + 1442695040888963407
		return int((state >> 33) % uint64(below))
	}
}

// texts hands over texts of labels most of which may be.
func texts(do func(s string)) {
	labels := []string{
		"a", "b", "c", "1", "0x", "-", "_", "~", "!$&'()*+,-;=", "ab", "abc", "A", "Bc", "XN", "xn", "xn-", "axn--b", "-xn--", "xn-a-", "xn_--", "n--", strings.Repeat("a", 62), strings.Repeat("z", 63),
		"xn--", "XN--a", "Xn--b", "xN--c", "xn--" + strings.Repeat("a", 59), "xn--" + strings.Repeat("a", 60), strings.Repeat("b", 64), "", "", "a b", "\x00", "\x7F", "a%", "[", "]", "^", "`", "{", "|", "}", "\\", "/", ":", "@", "?", "#", "<", ">", "\"", "\x80", "\xFF", "\u00E9", "\u212A", "\u0130", "\uFF0E", "\u3002",
	}
	const right = 23
	next := chance()
	for range 200000 {
		parts := make([]string, 1+next(6))
		for i := range parts {
			parts[i] = labels[next(right)]
			if next(8) == 0 {
				parts[i] = labels[next(len(labels))]
			}
		}
		do(strings.Join(parts, ".") + []string{"", "", "", ".", "."}[next(5)])
	}
}

// P11.1
func TestCanon(t *testing.T) {
	for s, want := range map[string]domain.Name{
		"a": "a", "A": "a", "a.b": "a.b", "example.com": "example.com", "EXAMPLE.com.": "example.com.", "www.Example.COM": "www.example.com", "localhost": "localhost", "LOCALHOST.": "localhost.",
		"AZaz09": "azaz09", "-": "-", "-a-.-b-": "-a-.-b-", "_dmarc.a": "_dmarc.a", "!$&'()*+,-;=_~": "!$&'()*+,-;=_~", "a~b.c!d": "a~b.c!d",
		"127.0.0.1": "127.0.0.1", "0X7F.1": "0x7f.1", "1": "1", "1.": "1.", "08": "08",
		"xn": "xn", "xn-": "xn-", "xn-a": "xn-a", "xn-.-a": "xn-.-a", "axn--b": "axn--b", "a.bxn--c": "a.bxn--c", "-xn--a": "-xn--a", "x.n--a": "x.n--a", "n--a": "n--a", "xnn--a": "xnn--a", "a--b": "a--b",
	} {
		check(t, s, want, api.OK)
	}
}

// P11.1
func TestCanonOfNoName(t *testing.T) {
	for s, e := range map[string]api.Errno{
		"": api.ErrHost, ".": api.ErrHost, "..": api.ErrHost, "...": api.ErrHost, ".a": api.ErrHost, ".a.": api.ErrHost, "a..": api.ErrHost, "a.b..": api.ErrHost, "a..b": api.ErrHost, "a..b.": api.ErrHost, "..a": api.ErrHost, "a...b": api.ErrHost,
		" ": api.ErrHost, "a b": api.ErrHost, " a": api.ErrHost, "a ": api.ErrHost, "a\n": api.ErrHost, "a\tb": api.ErrHost, "\x00": api.ErrHost, "\x7F": api.ErrHost, "a\x7F": api.ErrHost,
		"a:80": api.ErrHost, "u@a": api.ErrHost, "a/b": api.ErrHost, "a\\b": api.ErrHost, "a%62": api.ErrHost, "a%": api.ErrHost, "[::1]": api.ErrHost, "::1": api.ErrHost, "a?": api.ErrHost, "a#": api.ErrHost,
		"\u00E9": api.ErrIDN, "b\u00FCcher.de": api.ErrIDN, "a\u3002b": api.ErrIDN, "\uFF41": api.ErrIDN, "\u212A": api.ErrIDN, "\u0130": api.ErrIDN, "\x80": api.ErrIDN, "\xFF": api.ErrIDN, "a\xFF": api.ErrIDN, "\xFFa": api.ErrIDN, "a.\xC3": api.ErrIDN, "\U0001F600.a": api.ErrIDN,
	} {
		check(t, s, "", e)
	}
}

// P11.1: each byte alone, and at each place within a name.
func TestCanonOfEachByte(t *testing.T) {
	for c := range 256 {
		b := string([]byte{byte(c)})
		for _, around := range [][2]string{{"", ""}, {"a", "b"}, {"", "b"}, {"a", ""}, {"a.", ".b"}, {"a.b", "c.d"}, {"a.", ""}, {"", ".a"}, {"a", "."}, {"a.", "."}, {"", strings.Repeat("a", 62)}, {strings.Repeat("a", 62), ""}} {
			s := around[0] + b + around[1]
			want, e := domain.Name(""), api.ErrHost
			switch {
			case c >= 0x80:
				e = api.ErrIDN
			case strings.Contains(plain, b):
				want, e = domain.Name(s), api.OK
			case strings.Contains(great, b):
				want, e = domain.Name(around[0]+string([]byte{byte(c + 32)})+around[1]), api.OK
			case b == "." && around[0] != "" && !strings.HasSuffix(around[0], ".") && !strings.HasPrefix(around[1], "."):
				want, e = domain.Name(s), api.OK
			}
			check(t, s, want, e)
		}
	}
	for _, c := range "\x21\x7E" {
		check(t, string(c), domain.Name(string(c)), api.OK)
	}
	for _, s := range []string{"\x20", "\x7F"} {
		check(t, s, "", api.ErrHost)
	}
	if n := len(plain) + len(great) + len(forbidden) + len(".") + 33 + len("\x7F"); n != 128 {
		t.Errorf("the test has %d signs of ASCII", n)
	}
}

// P11.1: labels of each length, at each place of names of one to four labels.
func TestCanonOfLabelLengths(t *testing.T) {
	for count := 1; count <= 4; count++ {
		for at := range count {
			for _, length := range []int{0, 1, 2, 62, 63, 64, 65, 200} {
				labels := slices.Repeat([]string{"ab"}, count)
				labels[at] = strings.Repeat("c", length)
				s := strings.Join(labels, ".")
				// Where the last one is empty, and there are others, the name ends in a point.
				if length >= 1 && length <= 63 || length == 0 && at == count-1 && count > 1 {
					check(t, s, domain.Name(s), api.OK)
				} else {
					check(t, s, "", api.ErrHost)
				}
				if length >= 1 && length <= 63 {
					check(t, s+".", domain.Name(s+"."), api.OK)
				} else {
					check(t, s+".", "", api.ErrHost)
				}
				check(t, s+"..", "", api.ErrHost)
				check(t, "."+s, "", api.ErrHost)
			}
		}
	}
}

// nameOf tells a name of so many bytes, of labels of so many, but that the last one may have one more.
func nameOf(length, label int) string {
	name := []byte(strings.Repeat("a", length))
	for i := label; i < length-1; i += label + 1 {
		name[i] = '.'
	}
	return string(name)
}

// P11.1: names of 200 to 300 bytes, of long labels and of short ones.
func TestCanonOfNameLengths(t *testing.T) {
	for length := 200; length <= 300; length++ {
		for _, label := range []int{1, 7, 62} {
			s := nameOf(length, label)
			for _, behind := range []string{"", "."} {
				want, e := domain.Name(s+behind), api.OK
				if length > 253 {
					want, e = "", api.ErrHost
				}
				check(t, s+behind, want, e)
				check(t, strings.ToUpper(s+behind), want, e)
			}
			check(t, s+"..", "", api.ErrHost)
		}
	}
	// By hand: 63 + 1 + 63 + 1 + 63 + 1 + 61 = 253.
	long := strings.Repeat(strings.Repeat("a", 63)+".", 3) + strings.Repeat("b", 61)
	check(t, long, domain.Name(long), api.OK)
	check(t, long+".", domain.Name(long+"."), api.OK)
	check(t, long+"b", "", api.ErrHost)
	check(t, long+"b.", "", api.ErrHost)
}

// P11.1: xn-- at the beginning of a label, and elsewhere.
func TestCanonOfCodedLabels(t *testing.T) {
	for _, begin := range []string{"xn--", "XN--", "Xn--", "xN--"} {
		for _, rest := range []string{"", "a", "A", "-", "mnchen-3ya", strings.Repeat("a", 59)} {
			one := begin + rest
			for _, s := range []string{one, one + ".", one + ".b", "a." + one, "a." + one + ".", "a." + one + ".b", "a.b." + one + ".c.", one + "." + one, "1." + one, one + ".1"} {
				check(t, s, "", api.ErrIDN)
			}
			if len(one) < 63 {
				for _, s := range []string{"a" + one, "a.b" + one, "-" + one + ".a", "x" + one, "xn-" + one[:2] + one[3:]} {
					check(t, s, domain.Name(strings.ToLower(s)), api.OK)
				}
			}
		}
	}
}

// P11.1: several faults at once: the first one is told.
func TestCanonOfSeveralFaults(t *testing.T) {
	beyond := []string{"\x80", "\xFF", "\u00E9"}
	shapes := []string{"a b", "[", "a%", "\x7F", "..", ".", "a..b", ".a", strings.Repeat("a", 64), strings.Repeat("a.", 127) + "a"}
	for _, one := range shapes {
		for _, s := range []string{one + ".xn--a", "xn--a." + one, "XN--" + one + "..", "xn--a.xn--b." + one} {
			check(t, s, "", api.ErrHost)
			for _, far := range beyond {
				check(t, s+far, "", api.ErrIDN)
				check(t, far+s, "", api.ErrIDN)
			}
		}
		for _, far := range beyond {
			check(t, one+far, "", api.ErrIDN)
			check(t, far+one, "", api.ErrIDN)
			check(t, one+far+one, "", api.ErrIDN)
		}
	}
	check(t, "xn--"+strings.Repeat("a", 60), "", api.ErrHost) // a label of 64
	check(t, "xn--"+strings.Repeat("a", 59), "", api.ErrIDN)
	check(t, strings.Repeat("xn--a.", 42)+"b", "", api.ErrIDN)   // 253 bytes
	check(t, strings.Repeat("xn--a.", 42)+"bc", "", api.ErrHost) // 254
	check(t, strings.Repeat("xn--a.", 42)+"b.", "", api.ErrIDN)
	check(t, "xn--a..", "", api.ErrHost)
	check(t, ".xn--a", "", api.ErrHost)
	check(t, "xn--a b", "", api.ErrHost)
}

// P11.1
func TestCanonOfManyTexts(t *testing.T) {
	counts := map[api.Errno]int{}
	texts(func(s string) {
		want, e := canon(s)
		check(t, s, want, e)
		counts[e]++
	})
	for _, e := range []api.Errno{api.OK, api.ErrHost, api.ErrIDN} {
		if counts[e] < 5000 {
			t.Errorf("but %d of the texts are of %d", counts[e], e)
		}
	}
}

// P11.1: all texts of at most two bytes.
func TestCanonOfShortTexts(t *testing.T) {
	for a := range 256 {
		for b := range 256 {
			s := string([]byte{byte(a), byte(b)})
			want, e := canon(s)
			check(t, s, want, e)
		}
	}
}

// P11.1: a text that isn't a name as it stands, though Canon tells one of it.
func TestRight(t *testing.T) {
	for s, want := range map[string]bool{
		"a": true, "a.b.": true, "127.0.0.1": true, "0x7f.1": true, "~!": true, "axn--b": true,
		"A": false, "a.B": false, "a.b.C.": false, "0X7F.1": false, "": false, ".": false, "a..": false, "xn--a": false, "XN--a": false, "a b": false, "\u00E9": false, "a%62": false, " a": false, "a\x00": false,
	} {
		if got := domain.Right(s); got != want {
			t.Errorf("Right(%q) = %v, want %v", s, got, want)
		}
	}
}

// P11.2
func TestTextAndLabels(t *testing.T) {
	for n, want := range map[domain.Name][]string{
		"a": {"a"}, "a.": {"a"}, "a.b": {"a", "b"}, "a.b.": {"a", "b"}, "www.example.com": {"www", "example", "com"}, "www.example.com.": {"www", "example", "com"}, "127.0.0.1": {"127", "0", "0", "1"},
		// Such as may not be.
		"": {""}, ".": {""}, "..": {"", ""}, "a..": {"a", ""}, ".a": {"", "a"}, ".a.": {"", "a"}, "a..b": {"a", "", "b"}, "A.b C": {"A", "b C"}, "\xFF.\u00E9.": {"\xFF", "\u00E9"},
	} {
		if got := n.Labels(); !slices.Equal(got, want) {
			t.Errorf("Labels of %q = %q, want %q", n, got, want)
		}
		if got := n.Text(); got != string(n) {
			t.Errorf("Text of %q = %q", n, got)
		}
	}
}

// P11.2: labels laid together with points between are the name, without a point behind.
func TestLabelsOfManyTexts(t *testing.T) {
	texts(func(s string) {
		want := s
		if strings.HasSuffix(s, ".") {
			want = s[:len(s)-1]
		}
		got := domain.Name(s).Labels()
		if strings.Join(got, ".") != want || len(got) != strings.Count(want, ".")+1 {
			t.Errorf("Labels of %q = %q", s, got)
		}
	})
}

// P11.2
func TestLabelsShareNothing(t *testing.T) {
	n := domain.Name("a.b.")
	first, second := n.Labels(), n.Labels()
	first[0] = "x"
	_ = append(first, "y")
	if !slices.Equal(second, []string{"a", "b"}) {
		t.Errorf("two answers of Labels share memory: %q", second)
	}
}

// P11.2
func TestBelow(t *testing.T) {
	for _, c := range []struct {
		n, m domain.Name
		want bool
	}{
		{"www.example.com", "example.com", true}, {"www.example.com", "com", true}, {"a.b.c.d", "c.d", true}, {"a.a", "a", true}, {"a.a.a", "a.a", true}, {"1.2.3.4", "3.4", true},
		// A point behind counts for nothing, on either side.
		{"www.example.com.", "example.com", true}, {"www.example.com", "example.com.", true}, {"www.example.com.", "example.com.", true}, {"b.a", "a.", true}, {"b.a.", "a", true},
		// Itself.
		{"a", "a", false}, {"a.b", "a.b", false}, {"a.", "a", false}, {"a", "a.", false}, {"a.b.", "a.b", false}, {"a.b", "a.b.", false},
		// A part of a label.
		{"example.com", "ample.com", false}, {"www.example.com", "m", false}, {"www.example.com", "om", false}, {"notexample.com", "example.com", false}, {"a.bc", "c", false}, {"a.bc.", "c.", false},
		// Others.
		{"example.com", "www.example.com", false}, {"com", "example.com", false}, {"www.example.com", "example", false}, {"www.example.com", "www", false}, {"www.example.com", "www.example", false}, {"www.example.com", "example.org", false}, {"a.b.c", "a.c", false}, {"a.b.c", "b", false},
		{"a.B", "b", false}, {"a.b", "B", false}, {"x.B", "B", true},
		// Of no labels but empty ones none is below, and they are below none of these.
		{"a", "", false}, {"a.b", "", false}, {"a.", "", false}, {"a.", ".", false}, {"a.b.", ".", false}, {"a..", ".", false}, {"a..", "", false}, {"a...", "..", false}, {"", "", false}, {".", "", false}, {"", ".", false}, {".", ".", false}, {"..", ".", false}, {"..", "", false}, {"...", "..", false},
		{"", "a", false}, {".", "a", false}, {"", "a.", false},
		// Empty labels beside others.
		{".a", "a", true}, {".a.", "a", true}, {"b..a", "a", true}, {"b..a", ".a", true}, {"..a", ".a", true}, {".a", ".a", false}, {"b.a", ".a", false}, {"b.a..", "a..", true}, {"b.a..", "a.", false}, {"b.a..", "a", false}, {"b.a.", "a..", false},
	} {
		if got := c.n.Below(c.m); got != c.want {
			t.Errorf("%q.Below(%q) = %v, want %v", c.n, c.m, got, c.want)
		}
	}
}

// P11.2: each text of few signs against each other one, told by the texts' ends.
func TestBelowOfManyTexts(t *testing.T) {
	list := []string{""}
	for from, length := 0, 0; length < 5; length++ {
		to := len(list)
		for _, s := range list[from:to] {
			list = append(list, s+"a", s+"b", s+".")
		}
		from = to
	}
	below := 0
	for _, n := range list {
		for _, m := range list {
			own, above := strings.TrimSuffix(n, "."), strings.TrimSuffix(m, ".")
			want := strings.Trim(above, ".") != "" && strings.HasSuffix(own, "."+above)
			if got := domain.Name(n).Below(domain.Name(m)); got != want {
				t.Errorf("%q.Below(%q) = %v, want %v", n, m, got, want)
			}
			if want {
				below++
			}
		}
	}
	if below < 500 {
		t.Errorf("but %d of the texts are below another one", below)
	}
}

// P11.3
func TestCanonOfANameIsThatName(t *testing.T) {
	names := 0
	texts(func(s string) {
		n, e := domain.Canon(s)
		if e != api.OK {
			return
		}
		names++
		check(t, n.Text(), n, api.OK)
		if !domain.Right(n.Text()) {
			t.Errorf("Canon(%q) = %q, which isn't right", s, n)
		}
	})
	if names < 5000 {
		t.Errorf("but %d of the texts are names", names)
	}
}

// P1: each call ends, and none panics; beside an error stands the empty name.
func TestNoneOfTheCallsPanics(t *testing.T) {
	const signs = "aZ0.-xn\x00\x20\x7F\x80\xFF"
	next := chance()
	ask := func(s string) {
		n, e := domain.Canon(s)
		if e != api.OK && n != "" {
			t.Errorf("Canon(%q) = %q beside %d", s, n, e)
		}
		domain.Right(s)
		domain.Name(s).Text()
		domain.Name(s).Labels()
		domain.Name(s).Below(n)
		n.Below(domain.Name(s))
		domain.Name(s).Below(domain.Name(s))
	}
	for range 200000 {
		text := make([]byte, next(12))
		for i := range text {
			text[i] = signs[next(len(signs))]
		}
		ask(string(text))
	}
	for _, part := range []string{".", "a", "a.", ".a", "A", "xn--", "xn--a.", "\x80", " ", "%"} {
		ask(strings.Repeat(part, 100000))
	}
}
