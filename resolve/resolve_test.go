package resolve_test

import (
	"slices"
	"strings"
	"testing"

	"mantrap/abnf"
	"mantrap/api"
	"mantrap/resolve"
)

// holdParts holds Parts against the model.
func holdParts(t *testing.T, base, ref abnf.Parts) abnf.Parts {
	t.Helper()
	got := resolve.Parts(base, ref)
	if want := both(base, ref); got != want {
		t.Errorf("Parts(%+v, %+v) = %+v, want %+v", base, ref, got, want)
	}
	return got
}

// hold holds Text against the model, and against what follows of it.
func hold(t *testing.T, base, ref string) (string, api.Errno) {
	t.Helper()
	got, e := resolve.Text(base, ref)
	want, wantedError := read(base, ref)
	if got != want || e != wantedError {
		t.Errorf("Text(%.200q, %.200q) = %.200q, %d, want %.200q, %d", base, ref, got, e, want, wantedError)
	}
	b, ofBase := abnf.Parse(base)
	r, ofRef := abnf.Parse(ref)
	if ofBase != api.OK || ofRef != api.OK {
		return got, e
	}
	p := holdParts(t, b, r)
	if e == api.OK && (p.Text() != got || !p.Right()) {
		t.Errorf("Text(%.200q, %.200q) = %.200q, but of the parts %.200q comes, right: %v", base, ref, got, p.Text(), p.Right())
	}
	if b.HasAuthority {
		follows(t, b, r, p)
	}
	return got, e
}

// follows holds what comes of a right base with an authority, and of a right
// reference, against P17.2. A reference with a scheme takes no authority of the
// base, so that one whose path begins with // without its points isn't right.
func follows(t *testing.T, base, ref, got abnf.Parts) {
	t.Helper()
	alone := ref.HasScheme && !ref.HasAuthority && strings.HasPrefix(got.Path, "//")
	if want := len(got.Text()) <= 4096 && !alone; got.Right() != want {
		t.Errorf("Right of %+v, which comes of %+v and %+v, = %v", got, base, ref, !want)
	}
	base.Fragment, base.HasFragment = "", false
	if ref == (abnf.Parts{}) && got != base {
		t.Errorf("of %+v and the empty reference %+v comes", base, got)
	}
}

// check holds Text against what is wanted, and against the model.
func check(t *testing.T, base, ref, want string, wantedError api.Errno) {
	t.Helper()
	if got, e := hold(t, base, ref); got != want || e != wantedError {
		t.Errorf("Text(%.200q, %.200q) = %.200q, %d, want %.200q, %d", base, ref, got, e, want, wantedError)
	}
}

// checkAll holds All against what is wanted, and against the model.
func checkAll(t *testing.T, want string, wantedError api.Errno, base string, refs ...string) {
	t.Helper()
	kept := slices.Clone(refs)
	got, e := resolve.All(base, refs...)
	if got != want || e != wantedError {
		t.Errorf("All(%.200q, %.200q) = %.200q, %d, want %.200q, %d", base, refs, got, e, want, wantedError)
	}
	if want, wantedError := readAll(base, refs...); got != want || e != wantedError {
		t.Errorf("All(%.200q, %.200q) = %.200q, %d, by the model %.200q, %d", base, refs, got, e, want, wantedError)
	}
	if !slices.Equal(kept, refs) {
		t.Errorf("All has changed %.200q to %.200q", kept, refs)
	}
}

// chance tells a source of numbers that look like chance, the same ones at each run.
func chance() func(below int) int {
	state := uint64(1)
	return func(below int) int {
		state = state*6364136223846793005 + 1442695040888963407
		return int((state >> 33) % uint64(below))
	}
}

// P17.1, of RFC 3986, 5.4.
func TestTheNormalAndTheAbnormal(t *testing.T) {
	for ref, want := range map[string]string{
		"g:h": "g:h", "g": "http://a/b/c/g", "./g": "http://a/b/c/g", "g/": "http://a/b/c/g/", "/g": "http://a/g", "//g": "http://g", "?y": "http://a/b/c/d;p?y", "g?y": "http://a/b/c/g?y", "#s": "http://a/b/c/d;p?q#s", "g#s": "http://a/b/c/g#s", "g?y#s": "http://a/b/c/g?y#s", ";x": "http://a/b/c/;x", "g;x": "http://a/b/c/g;x", "g;x?y#s": "http://a/b/c/g;x?y#s", "": "http://a/b/c/d;p?q", ".": "http://a/b/c/", "./": "http://a/b/c/", "..": "http://a/b/", "../": "http://a/b/", "../g": "http://a/b/g", "../..": "http://a/", "../../": "http://a/", "../../g": "http://a/g",
		"../../../g": "http://a/g", "../../../../g": "http://a/g", "/./g": "http://a/g", "/../g": "http://a/g", "g.": "http://a/b/c/g.", ".g": "http://a/b/c/.g", "g..": "http://a/b/c/g..", "..g": "http://a/b/c/..g", "./../g": "http://a/b/g", "./g/.": "http://a/b/c/g/", "g/./h": "http://a/b/c/g/h", "g/../h": "http://a/b/c/h", "g;x=1/./y": "http://a/b/c/g;x=1/y", "g;x=1/../y": "http://a/b/c/y", "g?y/./x": "http://a/b/c/g?y/./x", "g?y/../x": "http://a/b/c/g?y/../x", "g#s/./x": "http://a/b/c/g#s/./x", "g#s/../x": "http://a/b/c/g#s/../x", "http:g": "http:g",
	} {
		check(t, "http://a/b/c/d;p?q", ref, want, api.OK)
	}
}

// P17.1: each sort of reference, against each sort of base.
func TestText(t *testing.T) {
	for base, answers := range map[string]map[string]string{
		// All that a base may have.
		"Http://u:p@A.b:08/x/../y/z?q#f": {
			"": "Http://u:p@A.b:08/x/../y/z?q", "?": "Http://u:p@A.b:08/x/../y/z?", "#": "Http://u:p@A.b:08/x/../y/z?q#", "?#": "Http://u:p@A.b:08/x/../y/z?#", "?r": "Http://u:p@A.b:08/x/../y/z?r", "#g": "Http://u:p@A.b:08/x/../y/z?q#g", "?r#g": "Http://u:p@A.b:08/x/../y/z?r#g", "?#g": "Http://u:p@A.b:08/x/../y/z?#g", "?r#": "Http://u:p@A.b:08/x/../y/z?r#",
			"a": "Http://u:p@A.b:08/y/a", "a?": "Http://u:p@A.b:08/y/a?", "a#": "Http://u:p@A.b:08/y/a#", "a?r#g": "Http://u:p@A.b:08/y/a?r#g", ".": "Http://u:p@A.b:08/y/", "..": "Http://u:p@A.b:08/", "../../../a/./b/..": "Http://u:p@A.b:08/a/", "./a:b": "Http://u:p@A.b:08/y/a:b", ".?r": "Http://u:p@A.b:08/y/?r", "..#g": "Http://u:p@A.b:08/#g", ".//a": "Http://u:p@A.b:08/y//a", "..//a": "Http://u:p@A.b:08//a",
			"/": "Http://u:p@A.b:08/", "/a/../b": "Http://u:p@A.b:08/b", "/a?r": "Http://u:p@A.b:08/a?r", "/?": "Http://u:p@A.b:08/?", "/#": "Http://u:p@A.b:08/#", "/a#g": "Http://u:p@A.b:08/a#g", "/../..": "Http://u:p@A.b:08/", "/.//a": "Http://u:p@A.b:08//a", "/a:b": "Http://u:p@A.b:08/a:b",
			"//": "Http://", "//c": "Http://c", "//v@c:9": "Http://v@c:9", "//@:": "Http://@:", "//c?r": "Http://c?r", "//c#g": "Http://c#g", "//c/a/../b": "Http://c/b", "//c/../..": "Http://c/", "//c/.//a": "Http://c//a", "//[::1]/.": "Http://[::1]/", "//?": "Http://?", "//#": "Http://#", "///a": "Http:///a",
			"s:": "s:", "S:": "S:", "s:?r#g": "s:?r#g", "s:a": "s:a", "s:a/../b": "s:/b", "s:../a": "s:a", "s:/a/./b?": "s:/a/b?", "s://c": "s://c", "s://v@c:9/a/..?r": "s://v@c:9/?r", "Http:": "Http:", "http:a": "http:a", "Http:?": "Http:?", "Http:#": "Http:#", "Http://": "Http://", "s:.": "s:", "s:..": "s:", "s://c/.//a": "s://c//a",
		},
		// No path.
		"a://b":   {"": "a://b", "?": "a://b?", "#": "a://b#", "c": "a://b/c", ".": "a://b/", "..": "a://b/", "../c": "a://b/c", "./c:d": "a://b/c:d", "/": "a://b/", "/c": "a://b/c", "//c": "a://c", "c?d": "a://b/c?d", ".//c": "a://b//c"},
		"a://b?q": {"": "a://b?q", "?": "a://b?", "#": "a://b?q#", "#g": "a://b?q#g", "?r#g": "a://b?r#g", "c": "a://b/c", "/": "a://b/"},
		"a://b#f": {"": "a://b", "?": "a://b?", "#": "a://b#", "c": "a://b/c"},
		"a://":    {"": "a://", "b": "a:///b", "/b": "a:///b", "//b": "a://b", "?r": "a://?r", ".//b": "a:////b"},
		"a:":      {"": "a:", "?r": "a:?r", "#g": "a:#g", "b": "a:b", "./b": "a:b", "../b": "a:b", "./b:c": "a:b:c", ".": "a:", "..": "a:", "/b": "a:/b", "//b": "a://b", ".//b": "a:/b", "b//c": "a:b//c"},
		"a:?q#f":  {"": "a:?q", "?": "a:?", "#": "a:?q#", "b": "a:b"},
		// Rootless ones, and rooted ones without an authority.
		"a:b":       {"": "a:b", "?r": "a:b?r", "#g": "a:b#g", "c": "a:c", "./c": "a:c", "../c": "a:c", "c/d": "a:c/d", "..": "a:", ".": "a:", "/c": "a:/c", "//c": "a://c", "c/../d": "a:/d"},
		"a:b/c?q":   {"": "a:b/c?q", "d": "a:b/d", "..": "a:/", "../d": "a:/d", "../../d": "a:/d", ".": "a:b/", "./": "a:b/", ".//d": "a:b//d", "?": "a:b/c?", "d?r#g": "a:b/d?r#g"},
		"a:b:c/d#f": {"": "a:b:c/d", "e:f": "e:f", "./e:f": "a:b:c/e:f"},
		"a:/b/c":    {"": "a:/b/c", "d": "a:/b/d", "../d": "a:/d", "../../../d": "a:/d", ".": "a:/b/", ".//d": "a:/b//d"},
		"a:/":       {"": "a:/", "b": "a:/b", "..": "a:/", "../b": "a:/b"},
		// Points in the base's path: they stay, where the reference has no path.
		"a://b/./c/../d":       {"": "a://b/./c/../d", "?": "a://b/./c/../d?", "#g": "a://b/./c/../d#g", "e": "a://b/e", ".": "a://b/", "..": "a://b/", "/e": "a://b/e"},
		"a://b/..":             {"": "a://b/..", "c": "a://b/c", "?r": "a://b/..?r"},
		"a:../b/.":             {"": "a:../b/.", "c": "a:b/c", "#": "a:../b/.#"},
		"a:..":                 {"": "a:..", "b": "a:b", "../b": "a:b"},
		"a://b/c/d/..":         {"e": "a://b/c/d/e", "../e": "a://b/c/e"},
		"a:/.//b":              {"": "a:/.//b", "?": "a:/.//b?", "#g": "a:/.//b#g", "/c": "a:/c", "//c": "a://c"},
		"a://b/c/?d/e":         {"f": "a://b/c/f", "": "a://b/c/?d/e", "?f/../g": "a://b/c/?f/../g"},
		"a://b/c/#d/e":         {"f": "a://b/c/f", "": "a://b/c/", "#f/../g": "a://b/c/#f/../g"},
		"a://b/c%2Fd/%2e%2E/e": {"f": "a://b/c%2Fd/%2e%2E/f", "../f": "a://b/c%2Fd/f", "%2e%2e/f": "a://b/c%2Fd/%2e%2E/%2e%2e/f"},
	} {
		for ref, want := range answers {
			check(t, base, ref, want, api.OK)
		}
	}
}

// P17.1: what comes of both isn't right: without an authority its path begins with //, though neither text's does.
func TestWhatIsNotRight(t *testing.T) {
	for base, refs := range map[string][]string{
		"a:":                {"/.//b", "/..//b", "/b/..//c", "s:/.//b", "b/..//c", "/.//", "/.//b?r#g"},
		"a:b":               {"/.//c", "c/..//d", "s:/..//c", "/.//#g"},
		"a:b/c":             {"..//d", "..//", "../..//d", "d/../..//e", "/d/..//e", "s:d/..//e"},
		"a:/b":              {".//c", "..//c", ".//", "c/..//d", "/.//c", "/..//", "././/c?r"},
		"a:/b/c":            {"..//d", "../..//d", "/.//d"},
		"a:/.//b":           {"c", ".", "./c", "/..//c"},
		"a:/..//b/c":        {"d", ".."},
		"http://h/x/y?q#f":  {"s:/.//b", "s:b/..//c", "http:/.//b", "s:/..//b?r#g", "http:b/..//"},
		"http://u@[::1]:8/": {"s:/.//b", "http:/././/"},
	} {
		for _, ref := range refs {
			check(t, base, ref, "", api.ErrGrammar)
		}
	}
	// What keeps its points is right, and so are the same paths behind an authority.
	check(t, "a:/.//b", "?/../.", "a:/.//b?/../.", api.OK)
	for ref, want := range map[string]string{"/.//b": "a://h//b", "/..//b": "a://h//b", ".//b": "a://h/x//b", "..//b": "a://h//b", "s://h/.//b": "s://h//b", "//i/.//b": "a://i//b", ".//": "a://h/x//"} {
		check(t, "a://h/x/y", ref, want, api.OK)
	}
}

// long tells a text that is filled up to a number of bytes.
func long(s string, size int) string {
	return s + strings.Repeat("a", size-len(s))
}

// P17.1, P17.2: a base, a reference, and what comes of them, of more than 4096 bytes.
func TestLong(t *testing.T) {
	for size, e := range map[int]api.Errno{4095: api.OK, 4096: api.OK, 4097: api.ErrLong, 8192: api.ErrLong} {
		want := func(s string) string {
			if e != api.OK {
				return ""
			}
			return s
		}
		check(t, long("a://b/", size), "c", want("a://b/c"), e)
		check(t, long("a://b#", size), "", want("a://b"), e)
		check(t, "a://b/c", long("s:", size), want(long("s:", size)), e)
	}
	for size, e := range map[int]api.Errno{4095: api.OK, 4096: api.OK, 4097: api.ErrGrammar, 4098: api.ErrGrammar} {
		want := func(s string) string {
			if e != api.OK {
				return ""
			}
			return s
		}
		check(t, long("a://b/", 3000)+"/x", long("", size-3001), want(long("a://b/", 3000)+"/"+long("", size-3001)), e)
		check(t, "a://b", long("/", size-5), want("a://b"+long("/", size-5)), e)
		check(t, "a://b", long("", size-6), want("a://b/"+long("", size-6)), e)
		check(t, "a://b", long("//", size-2), want("a:"+long("//", size-2)), e)
		check(t, long("a://b/", 3000)+"?q", long("?", size-3000), want(long("a://b/", 3000)+long("?", size-3000)), e)
		check(t, long("a://b/?", 3000), long("#", size-3000), want(long("a://b/?", 3000)+long("#", size-3000)), e)
	}
	check(t, "a:b", long("?", 4097), "", api.ErrLong)
	// Points make it shorter, and a base's fragment doesn't count.
	check(t, long("a://b/", 4000), "/"+strings.Repeat("../", 1300)+"c", "a://b/c", api.OK)
	check(t, long("a://b/", 2000)+"/"+strings.Repeat("../", 600), strings.Repeat("../", 1000)+"c", "a://b/c", api.OK)
	check(t, long("a://b/#", 4096), long("c/", 4000), "a://b/"+long("c/", 4000), api.OK)
	check(t, long("a://b/", 4096), "", long("a://b/", 4096), api.OK)
	check(t, long("a://b/", 4096), "?", "", api.ErrGrammar)
	check(t, long("a://b/", 4096), "#", "", api.ErrGrammar)
}

// P17.1: a base of each error ahead of a reference of each.
func TestErrors(t *testing.T) {
	type text struct {
		s string
		e api.Errno
	}
	bases := []text{
		{"http://a/b", api.OK}, {"a:b", api.OK}, {"a:", api.OK},
		{long("a:", 4097), api.ErrLong}, {long("a", 4097), api.ErrLong}, {long("1:", 4097), api.ErrLong}, {long("\xFF", 9000), api.ErrLong},
		{"1:x", api.ErrScheme}, {":", api.ErrScheme}, {"1:\xFF", api.ErrScheme}, {"a_b:c", api.ErrScheme}, {"\u00E9:", api.ErrScheme},
		{"http://a b", api.ErrGrammar}, {"a:\xFF", api.ErrGrammar}, {"a://b@c@d", api.ErrGrammar}, {"a:%zz", api.ErrGrammar}, {"a://b:c", api.ErrGrammar}, {"a:b#c#d", api.ErrGrammar},
		// Without a scheme: it is told behind each fault of the base, ahead of each of the reference.
		{"", api.ErrScheme}, {"a", api.ErrScheme}, {"/", api.ErrScheme}, {"//a/b", api.ErrScheme}, {"?q", api.ErrScheme}, {"#f", api.ErrScheme}, {"/a:b", api.ErrScheme}, {long("a", 4096), api.ErrScheme},
		{"a b", api.ErrGrammar}, {"//a:b", api.ErrGrammar}, {"\\", api.ErrGrammar}, {"%", api.ErrGrammar},
	}
	refs := []text{
		{"", api.OK}, {"c", api.OK}, {"//c", api.OK}, {"s:c", api.OK}, {"?r#g", api.OK},
		{long("c", 4097), api.ErrLong}, {long("1:", 4097), api.ErrLong}, {long("\xFF", 4097), api.ErrLong},
		{"2:x", api.ErrScheme}, {":", api.ErrScheme}, {":\xFF", api.ErrScheme}, {"a%41:", api.ErrScheme},
		{"c d", api.ErrGrammar}, {"\xFF", api.ErrGrammar}, {"//[", api.ErrGrammar}, {"//c:d", api.ErrGrammar}, {"?\u00E9", api.ErrGrammar}, {"##", api.ErrGrammar}, {"s:\n", api.ErrGrammar}, {"c\\d", api.ErrGrammar},
		// Of these what comes isn't right.
		{"s:/.//c", api.ErrGrammar}, {long("?", 4096), api.ErrGrammar},
	}
	for _, base := range bases {
		for _, ref := range refs {
			want := base.e
			if want == api.OK {
				want = ref.e
			}
			if got, e := hold(t, base.s, ref.s); e != want || (e == api.OK) == (got == "") {
				t.Errorf("Text(%.20q, %.20q) = %.20q, %d, want %d", base.s, ref.s, got, e, want)
			}
			got, e := resolve.All(base.s, ref.s)
			if s, of := resolve.Text(base.s, ref.s); got != s || e != of {
				t.Errorf("All(%.20q, %.20q) = %.20q, %d, but Text %.20q, %d", base.s, ref.s, got, e, s, of)
			}
		}
	}
}

// P17.1
func TestAll(t *testing.T) {
	// Of no references: the base, whatever it is.
	for _, base := range []string{"http://a/b?c#d", "a:b/../c#", "", "a", "1:x", "a b", "\xFF", ":", "a:/.//b", long("a", 9000)} {
		checkAll(t, base, api.OK, base)
		if got, e := resolve.All(base, []string{}...); got != base || e != api.OK {
			t.Errorf("All(%.20q, none) = %.20q, %d", base, got, e)
		}
	}
	// Of one, and of many.
	checkAll(t, "http://a/b", api.OK, "http://a/b#c", "")
	checkAll(t, "http://a/c", api.OK, "http://a/b", "c")
	checkAll(t, "http://a/g", api.OK, "http://a/b/c/d;p?q", "?y", "../../../g#s", "")
	checkAll(t, "http://a/b/c?e#f", api.OK, "http://a", "b/", "c", "?d", "?e", "#f")
	checkAll(t, "s://c/d/f", api.OK, "http://a/b", "//b", "s:x", "//c/d/e", "./f")
	checkAll(t, "http://a/b", api.OK, "http://a/b", "", "", "", "")
	checkAll(t, "http://a/", api.OK, "http://a/b/c/d/e", "..", "..", "..", "..")
	checkAll(t, "a:c#", api.OK, "a:b", "c", "", "#")
	checkAll(t, "a:c", api.OK, "a:b", "c#", "")
	checkAll(t, "http://a/"+strings.Repeat("b/", 1000)+"b", api.OK, "http://a", append(slices.Repeat([]string{"b/"}, 1000), "b")...)
	checkAll(t, "http://a/9?8#7", api.OK, "http://a", append(slices.Repeat([]string{"b/c", "../d", "?e", "/9"}, 1000), "?8", "#7")...)
	// What came of the one ahead counts, not the first base.
	checkAll(t, "", api.ErrGrammar, "http://a/b", "s:/c", ".//d")
	checkAll(t, "http://a/d", api.OK, "http://a/b", "//c", "//a", "d")
	// A base that is none, or has no scheme.
	checkAll(t, "", api.ErrScheme, "a", "b")
	checkAll(t, "", api.ErrScheme, "", "http://a/")
	checkAll(t, "", api.ErrGrammar, "a b", "http://a/", "c")
	checkAll(t, "", api.ErrScheme, "1:x", "a b", "c")
	checkAll(t, "", api.ErrLong, long("a:", 4097), "", "")
}

// P17.1: a fault at each place; of several the first one is told.
func TestAllOfFaults(t *testing.T) {
	faults := map[string]api.Errno{"1:x": api.ErrScheme, ":": api.ErrScheme, "a b": api.ErrGrammar, "\xFF": api.ErrGrammar, "//[": api.ErrGrammar, "s:/.//b": api.ErrGrammar, long("/", 4097): api.ErrLong, long("\xFF", 5000): api.ErrLong}
	for fault, e := range faults {
		for _, many := range []int{1, 2, 3, 8} {
			for at := range many {
				refs := slices.Repeat([]string{"b/../c"}, many)
				refs[at] = fault
				checkAll(t, "", e, "http://a/", refs...)
				for other := range faults {
					for behind := at + 1; behind < many; behind++ {
						refs[behind] = other
					}
					checkAll(t, "", e, "http://a/", refs...)
				}
			}
		}
	}
	// What grows too long ends it where it does.
	part := long("", 1000) + "/"
	checkAll(t, "http://a/"+strings.Repeat(part, 4), api.OK, "http://a/", part, part, part, part)
	checkAll(t, "", api.ErrGrammar, "http://a/", part, part, part, part, part)
	checkAll(t, "", api.ErrGrammar, "http://a/", part, part, part, part, part, "/", "1:x")
}

// P17.1: parts, field by field.
func TestParts(t *testing.T) {
	base := abnf.Parts{Scheme: "S", HasScheme: true, User: "u", HasUser: true, Host: "h", HasAuthority: true, Port: "1", HasPort: true, Path: "/x/y", Query: "q", HasQuery: true, Fragment: "f", HasFragment: true}
	with := func(change func(p *abnf.Parts)) abnf.Parts {
		p := base
		p.Fragment, p.HasFragment = "", false
		change(&p)
		return p
	}
	for _, c := range []struct{ ref, want abnf.Parts }{
		{abnf.Parts{}, with(func(p *abnf.Parts) {})},
		{abnf.Parts{HasFragment: true}, with(func(p *abnf.Parts) { p.HasFragment = true })},
		{abnf.Parts{Fragment: "g", HasFragment: true}, with(func(p *abnf.Parts) { p.Fragment, p.HasFragment = "g", true })},
		{abnf.Parts{HasQuery: true}, with(func(p *abnf.Parts) { p.Query = "" })},
		{abnf.Parts{Query: "r", HasQuery: true}, with(func(p *abnf.Parts) { p.Query = "r" })},
		{abnf.Parts{Path: "z/./a"}, with(func(p *abnf.Parts) { p.Path, p.Query, p.HasQuery = "/x/z/a", "", false })},
		{abnf.Parts{Path: "/z/./a", HasQuery: true}, with(func(p *abnf.Parts) { p.Path, p.Query = "/z/a", "" })},
		{abnf.Parts{Host: "i", HasAuthority: true, Path: "/z/.."}, abnf.Parts{Scheme: "S", HasScheme: true, Host: "i", HasAuthority: true, Path: "/"}},
		{abnf.Parts{HasAuthority: true}, abnf.Parts{Scheme: "S", HasScheme: true, HasAuthority: true}},
		{abnf.Parts{HasScheme: true}, abnf.Parts{HasScheme: true}},
		{abnf.Parts{Scheme: "t", HasScheme: true, Path: "../z"}, abnf.Parts{Scheme: "t", HasScheme: true, Path: "z"}},
		// What has no bit is there no less, but doesn't count for what it would be.
		{abnf.Parts{Scheme: "t"}, with(func(p *abnf.Parts) {})},
		{abnf.Parts{User: "v", HasUser: true, Host: "i", Port: "2", HasPort: true}, with(func(p *abnf.Parts) {})},
		{abnf.Parts{Query: "r"}, with(func(p *abnf.Parts) {})},
		{abnf.Parts{Fragment: "g"}, with(func(p *abnf.Parts) { p.Fragment = "g" })},
		{abnf.Parts{Path: "z", Query: "r"}, with(func(p *abnf.Parts) { p.Path, p.Query, p.HasQuery = "/x/z", "r", false })},
		{abnf.Parts{Path: "/", Query: "r", Fragment: "g"}, with(func(p *abnf.Parts) { p.Path, p.Query, p.HasQuery, p.Fragment = "/", "r", false, "g" })},
		{abnf.Parts{HasAuthority: true, User: "v", Port: "2", Path: "z/../a"}, abnf.Parts{Scheme: "S", HasScheme: true, HasAuthority: true, User: "v", Port: "2", Path: "/a"}},
		{abnf.Parts{HasScheme: true, User: "v", HasUser: true, Host: "i", Port: "2", HasPort: true, Query: "r", Fragment: "g"}, abnf.Parts{HasScheme: true, User: "v", HasUser: true, Host: "i", Port: "2", HasPort: true, Query: "r", Fragment: "g"}},
		// Paths that no text has.
		{abnf.Parts{Path: "//z"}, with(func(p *abnf.Parts) { p.Path, p.Query, p.HasQuery = "//z", "", false })},
		{abnf.Parts{Path: "a:b/?\xFF#/../c"}, with(func(p *abnf.Parts) { p.Path, p.Query, p.HasQuery = "/x/a:b/c", "", false })},
	} {
		if got := holdParts(t, base, c.ref); got != c.want {
			t.Errorf("Parts(%+v, %+v) = %+v, want %+v", base, c.ref, got, c.want)
		}
	}
}

// P17.1: what a base has without its bit is taken as it stands.
func TestPartsOfBasesThatNoTextHas(t *testing.T) {
	base := abnf.Parts{Scheme: "S", User: "u", Host: "h", Port: "1", HasPort: true, Path: "x", Query: "q", Fragment: "f"}
	for _, c := range []struct{ ref, want abnf.Parts }{
		{abnf.Parts{}, abnf.Parts{Scheme: "S", User: "u", Host: "h", Port: "1", HasPort: true, Path: "x", Query: "q"}},
		{abnf.Parts{Path: "y"}, abnf.Parts{Scheme: "S", User: "u", Host: "h", Port: "1", HasPort: true, Path: "y"}},
		{abnf.Parts{HasQuery: true}, abnf.Parts{Scheme: "S", User: "u", Host: "h", Port: "1", HasPort: true, Path: "x", HasQuery: true}},
		{abnf.Parts{HasAuthority: true}, abnf.Parts{Scheme: "S", HasAuthority: true}},
		{abnf.Parts{HasScheme: true}, abnf.Parts{HasScheme: true}},
	} {
		if got := holdParts(t, base, c.ref); got != c.want {
			t.Errorf("Parts(%+v, %+v) = %+v, want %+v", base, c.ref, got, c.want)
		}
	}
	// An empty path is merged by the bit alone, whatever else of an authority is there.
	for _, c := range []struct {
		base abnf.Parts
		want string
	}{{abnf.Parts{}, "y"}, {abnf.Parts{Host: "h", HasUser: true, HasPort: true}, "y"}, {abnf.Parts{HasScheme: true}, "y"}, {abnf.Parts{HasAuthority: true}, "/y"}, {abnf.Parts{HasAuthority: true, Path: "x"}, "y"}, {abnf.Parts{HasAuthority: true, Path: "x/z"}, "x/y"}} {
		if got := holdParts(t, c.base, abnf.Parts{Path: "y"}); got.Path != c.want {
			t.Errorf("Parts(%+v, y) = %+v, want the path %q", c.base, got, c.want)
		}
	}
	// A path that isn't right behind an authority.
	got := holdParts(t, abnf.Parts{HasScheme: true, Scheme: "a", HasAuthority: true, Path: "x"}, abnf.Parts{Path: "y"})
	if got.Right() || got.Text() != "a://y" {
		t.Errorf("%+v comes, which is %q, right: %v", got, got.Text(), got.Right())
	}
}

// lists are what references have, ahead of their paths, as their paths, and behind them.
var (
	schemes     = []string{"", "a:", "HTTP:"}
	authorities = []string{"", "//", "//h", "//u:@[::1]:", "//@h:8"}
	paths       = []string{"", "/", "/b/c/d;p", "b", "b/c", "/b/", "..", "../..", "../../../g", "./x/../y", "/../x/./y/..", ".", "/.//b", "b/..//c", ".//b", "b//", "./x:y", "/..", "//x", "x:y/.", "/b/../c/./d", "b/c/.."}
	queries     = []string{"", "?", "?q/../r?"}
	fragments   = []string{"", "#", "#f/.."}
)

// P17.1, P17.2: bases of all that a base may have, against references of all that they may have.
func TestAllSorts(t *testing.T) {
	var bases, refs []string
	for _, scheme := range schemes[1:] {
		for _, authority := range authorities {
			for i, path := range paths {
				bases = append(bases, scheme+authority+path+queries[i%3]+fragments[i/3%3])
			}
		}
	}
	for _, scheme := range schemes {
		for _, authority := range authorities {
			for _, path := range paths {
				for i, query := range queries {
					refs = append(refs, scheme+authority+path+query+fragments[i], scheme+authority+path+query+fragments[(i+1)%3])
				}
			}
		}
	}
	count := map[api.Errno]int{}
	for i, base := range bases {
		for j := i % 3; j < len(refs); j += 3 {
			_, e := hold(t, base, refs[j])
			count[e]++
		}
	}
	for e, least := range map[api.Errno]int{api.OK: 60000, api.ErrGrammar: 10000} {
		if count[e] < least {
			t.Errorf("but %d of them are told %d", count[e], e)
		}
	}
}

// some tells parts of which any may be there, with its bit or without it.
func some(next func(int) int) abnf.Parts {
	bit := func() bool { return next(2) == 0 }
	text := func(list ...string) string { return list[next(len(list))] }
	return abnf.Parts{
		Scheme: text("", "s", "T", "1"), HasScheme: next(4) == 0,
		User: text("", "u", "v:@"), HasUser: bit(), Host: text("", "h", "I", "/"), HasAuthority: next(3) == 0, Port: text("", "1", "x"), HasPort: bit(),
		Path:  text("", "", "", "/", "/x/y", "x", "x/y/../z", "../z", "//x", "a:b", "/./", "\xFF/..", ".", "/x/../../.", "x?y#/z", "..//"),
		Query: text("", "q", "#"), HasQuery: bit(),
		Fragment: text("", "f", "\xFF"), HasFragment: bit(),
	}
}

// P17.1: many parts, also such as no text has.
func TestManyParts(t *testing.T) {
	next := chance()
	for range 200000 {
		holdParts(t, some(next), some(next))
	}
}

// P17.1: many references, one behind the other.
func TestManyLists(t *testing.T) {
	next := chance()
	pick := func(list []string) string { return list[next(len(list))] }
	count := map[api.Errno]int{}
	for range 30000 {
		var refs []string
		for range next(6) {
			scheme, authority := "", ""
			if next(8) == 0 {
				scheme = pick(schemes)
			}
			if next(5) == 0 {
				authority = pick(authorities)
			}
			refs = append(refs, scheme+authority+pick(paths)+pick(queries)+pick(fragments))
			if next(30) == 0 {
				refs[next(len(refs))] = pick([]string{"1:x", "a b", "\xFF", "//a:b", ":"})
			}
		}
		base := pick(schemes[1:]) + pick(authorities) + pick(paths)
		got, e := resolve.All(base, refs...)
		if want, wantedError := readAll(base, refs...); got != want || e != wantedError {
			t.Errorf("All(%q, %q) = %q, %d, want %q, %d", base, refs, got, e, want, wantedError)
		}
		count[e]++
	}
	for e, least := range map[api.Errno]int{api.OK: 8000, api.ErrGrammar: 3000, api.ErrScheme: 200} {
		if count[e] < least {
			t.Errorf("but %d of them are told %d", count[e], e)
		}
	}
}

// P1: no call panics, whatever it is given, and beside an error there is no text.
func TestAnyBytes(t *testing.T) {
	const signs = "aZ09::://///....??##@@[[]]%%+-, \n\\\x00\x7F\xC3\xA9\xFF"
	next := chance()
	text := func() string {
		s := make([]byte, next(12))
		for i := range s {
			s[i] = signs[next(len(signs))]
		}
		return string(s)
	}
	for range 100000 {
		a, b, c := text(), text(), text()
		hold(t, a, b)
		hold(t, "a://"+a, b)
		hold(t, "http://h/"+strings.Repeat("x/", next(4)), c)
		resolve.Parts(abnf.Parts{Path: a, HasAuthority: next(2) == 0, Query: c}, abnf.Parts{Path: b, Host: c})
		if got, e := resolve.All(a, b, c); e != api.OK && got != "" {
			t.Errorf("All(%q, %q, %q) = %q beside %d", a, b, c, got, e)
		}
	}
	steep := strings.Repeat("../", 100000)
	if p := resolve.Parts(abnf.Parts{Path: strings.Repeat("/x", 100000)}, abnf.Parts{Path: steep}); p.Path != "/" {
		t.Errorf("of many steps up %.20q comes", p.Path)
	}
}
