package dots_test

import (
	"path"
	"regexp"
	"strings"
	"testing"

	"mantrap/dots"
)

// stack tells a path without its points, by a stack of its steps: what is rooted
// has each step with the / ahead of it; what isn't loses the points ahead first.
func stack(s string) string {
	for s != "" && s[0] != '/' {
		first, rest, more := strings.Cut(s, "/")
		if first != "." && first != ".." {
			return strings.Join(pushed([]string{first}, s[len(first):]), "")
		}
		if !more {
			return ""
		}
		s = rest
	}
	return strings.Join(pushed(nil, s), "")
}

// pushed tells the steps of a rooted path, or of none, put on a stack.
func pushed(stack []string, rooted string) []string {
	if rooted == "" {
		return stack
	}
	steps := strings.Split(rooted[1:], "/")
	for i, step := range steps {
		last := i == len(steps)-1
		switch {
		case step == ".." && len(stack) > 0:
			stack = stack[:len(stack)-1]
		case step != "." && step != "..":
			stack = append(stack, "/"+step)
		}
		if last && (step == "." || step == "..") {
			stack = append(stack, "/")
		}
	}
	return stack
}

var thing = regexp.MustCompile(`[^/]+`)

// hold holds Remove and Depth against the model, and against what follows of them.
func hold(t *testing.T, s string) {
	t.Helper()
	got := dots.Remove(s)
	if want := stack(s); got != want {
		t.Errorf("Remove(%q) = %q, want %q", s, got, want)
	}
	if again := dots.Remove(got); again != got {
		t.Errorf("Remove(%q) = %q, and of that %q", s, got, again)
	}
	for _, step := range strings.Split(got, "/") {
		if step == "." || step == ".." {
			t.Errorf("Remove(%q) = %q, with the step %q", s, got, step)
		}
	}
	if strings.HasPrefix(s, "/") && !strings.HasPrefix(got, "/") {
		t.Errorf("Remove(%q) = %q, without the / ahead", s, got)
	}
	if depth, want := dots.Depth(s), len(thing.FindAllString(got, -1)); depth != want {
		t.Errorf("Depth(%q) = %d, want %d", s, depth, want)
	}
}

// chance tells a source of numbers that look like chance, the same ones at each run.
func chance() func(below int) int {
	state := uint64(1)
	return func(below int) int {
		state = state*6364136223846793005 + 1442695040888963407
		return int((state >> 33) % uint64(below))
	}
}

// P16.1
func TestRemove(t *testing.T) {
	for s, want := range map[string]string{
		// Without points.
		"": "", "/": "/", "//": "//", "///": "///", "a": "a", "/a": "/a", "a/": "a/", "/a/": "/a/", "a/b": "a/b", "/a/b": "/a/b", "a//b": "a//b", "//a": "//a", "/a//": "/a//",
		// What the chapter names.
		"/a/b/c/./../../g": "/a/g", "mid/content=5/../6": "mid/6",
		// Points alone.
		".": "", "..": "", "./": "", "../": "", "/.": "/", "/..": "/", "/./": "/", "/../": "/", "././": "", "../..": "", "../../": "", "./..": "", ".././..": "", "/./.": "/", "/../..": "/", "/./../.": "/",
		// Ahead of a step.
		"./a": "a", "../a": "a", "/./a": "/a", "/../a": "/a", "././a": "a", "../../a": "a", "./../a": "a", ".././a": "a", "/././a": "/a", "/../../a": "/a", "./a/..": "/", ".//a": "/a", "..//a": "/a", ".//..": "/",
		// Behind one.
		"a/.": "a/", "a/..": "/", "/a/.": "/a/", "/a/..": "/", "a/./": "a/", "a/../": "/", "/a/./": "/a/", "/a/../": "/", "a/b/.": "a/b/", "a/b/..": "a/", "/a/b/..": "/a/", "/a/b/../": "/a/",
		// Between.
		"a/./b": "a/b", "a/../b": "/b", "/a/./b": "/a/b", "/a/../b": "/b", "/a/b/../c": "/a/c", "a/b/../c": "a/c", "/a/././b": "/a/b",
		// Several of them, and more than there are steps.
		"/a/b/../..": "/", "/a/b/c/../../d": "/a/d", "/a/../../b": "/b", "/a/../../../b/..": "/", "a/../../b": "/b", "a/b/../../c": "/c", "a/b/../../../c": "/c", "/../a/../../b/../c": "/c", "a/../b/../c": "/c", "/a/b/./../c/./..": "/a/",
		// Empty steps.
		"//.": "//", "//..": "/", "//../a": "/a", "//./a": "//a", "/a//..": "/a/", "/a//../b": "/a/b", "/a//../../b": "/b", "/a/..//b": "//b", "a/..//b": "//b", "/..//a": "//a", "/.//a": "//a", "///..": "//", "///../..": "/", "/a///../b": "/a//b", "a//..": "a/", "a//../..": "/", "/a/b//../../c": "/a/c", "/a//./b": "/a//b", "/..//..": "/",
		// Steps that begin with points and go on, or end with them.
		"...": "...", "/...": "/...", ".../a": ".../a", "/.../..": "/", "/a/...": "/a/...", "/....": "/....", ".a": ".a", "/.a": "/.a", "..a": "..a", "/..a": "/..a", "/..a/..": "/", "..a/.": "..a/", "a.": "a.", "/a..": "/a..", "/a../b": "/a../b", "/a./../b": "/b", ".a/../b": "/b", "/a.b/..c": "/a.b/..c", ". ": ". ", "/. /..": "/", "/.\x00": "/.\x00",
		// What only looks like a point, or like a /.
		"%2e": "%2e", "/%2e%2E/a": "/%2e%2E/a", "/a/.%2e": "/a/.%2e", "/a/%2E/..": "/a/", "/a\\..\\b": "/a\\..\\b", "/a%2f../b": "/a%2f../b", "/a/\uFF0E\uFF0E/b": "/a/\uFF0E\uFF0E/b", "/a/..?b": "/a/..?b", "/a/..#": "/a/..#", "/a;/../b": "/b",
		// Any bytes.
		"\xFF/../\x80": "/\x80", "/\x00/./\n": "/\x00/\n", "\u00E9/./\u20AC": "\u00E9/\u20AC",
	} {
		hold(t, s)
		if got := dots.Remove(s); got != want {
			t.Errorf("Remove(%q) = %q, want %q", s, got, want)
		}
	}
}

// P16.1, of RFC 3986, 5.4: behind /b/c/.
func TestRemoveOfTheNormalAndTheAbnormal(t *testing.T) {
	for s, want := range map[string]string{
		"g": "/b/c/g", "./g": "/b/c/g", "g/": "/b/c/g/", ";x": "/b/c/;x", "g;x": "/b/c/g;x", "": "/b/c/", ".": "/b/c/", "./": "/b/c/", "..": "/b/", "../": "/b/", "../g": "/b/g", "../..": "/", "../../": "/", "../../g": "/g",
		"../../../g": "/g", "../../../../g": "/g", "g.": "/b/c/g.", ".g": "/b/c/.g", "g..": "/b/c/g..", "..g": "/b/c/..g", "./../g": "/b/g", "./g/.": "/b/c/g/", "g/./h": "/b/c/g/h", "g/../h": "/b/c/h", "g;x=1/./y": "/b/c/g;x=1/y", "g;x=1/../y": "/b/c/y",
	} {
		if got := dots.Remove(dots.Merge("/b/c/d;p", true, s)); got != want {
			t.Errorf("%q behind /b/c/ is %q, want %q", s, got, want)
		}
	}
}

// P16.2
func TestMerge(t *testing.T) {
	for _, c := range []struct {
		base     string
		rootless bool
		path     string
		want     string
	}{
		{"", true, "", "/"}, {"", true, "a", "/a"}, {"", true, "/a", "//a"}, {"", true, "../a", "/../a"}, {"", false, "", ""}, {"", false, "a", "a"}, {"", false, "/a", "/a"}, {"", false, "./a", "./a"},
		{"a", true, "b", "b"}, {"a", false, "b", "b"}, {"a", true, "", ""}, {"a", false, "", ""}, {".", true, "b", "b"}, {"a.b\\c", false, "d", "d"},
		{"/", true, "b", "/b"}, {"/", false, "b", "/b"}, {"/", false, "", "/"}, {"/a", true, "b", "/b"}, {"/a", false, "b", "/b"}, {"/a", true, "", "/"}, {"a/", false, "b", "a/b"}, {"a/b", false, "c", "a/c"}, {"a/b", true, "c", "a/c"},
		{"/a/b", true, "c", "/a/c"}, {"/a/b/c", false, "d/e", "/a/b/d/e"}, {"/a/b/", true, "c", "/a/b/c"}, {"/a/b/", true, "", "/a/b/"}, {"//", false, "a", "//a"}, {"/a//", true, "b", "/a//b"}, {"/a//b", true, "c", "/a//c"},
		// No points go, and nothing else is looked at.
		{"/a/..", true, "b", "/a/b"}, {"/a/../b", true, "../c", "/a/../../c"}, {"/a", true, "/b", "//b"}, {"/a", false, "./..", "/./.."}, {"a?b/c#d/e", false, "f", "a?b/c#d/f"}, {"\xFF/\x00", false, "\x80", "\xFF/\x80"}, {"a%2fb", true, "c", "c"},
	} {
		if got := dots.Merge(c.base, c.rootless, c.path); got != c.want {
			t.Errorf("Merge(%q, %v, %q) = %q, want %q", c.base, c.rootless, c.path, got, c.want)
		}
	}
}

// P16.2
func TestDepth(t *testing.T) {
	for s, want := range map[string]int{
		"": 0, "/": 0, "//": 0, ".": 0, "..": 0, "/.": 0, "/..": 0, "./": 0, "../..": 0, "a": 1, "/a": 1, "a/": 1, "/a/": 1, "//a//": 1, "/a/b": 2, "a//b": 2, "a///b/": 2, "/a//b/..": 1, "/a/b//..": 2, "/a/b/../..": 0, "/a/../../b": 1, "a/..": 0, "a/../b": 1, "./a/./b/.": 2, "...": 1, "/.../....": 2, "/%2e/%2e%2e": 2, " ": 1, "/\x00/\xFF": 2, "\\a\\b": 1, "/a/b/c/./../../g": 2, "/1/2/3/4/5/6/7/8/9/10": 10,
	} {
		hold(t, s)
		if got := dots.Depth(s); got != want {
			t.Errorf("Depth(%q) = %d, want %d", s, got, want)
		}
	}
}

// P16.1, P16.2, P16.3: all texts of a few signs.
func TestAllShortTexts(t *testing.T) {
	var list func(s string, more int)
	list = func(s string, more int) {
		hold(t, s)
		if more == 0 {
			return
		}
		for _, sign := range []string{"a", "/", "."} {
			list(s+sign, more-1)
		}
	}
	list("", 10)
}

// P16.2: all bases and paths of a few signs.
func TestMergeOfShortTexts(t *testing.T) {
	var texts []string
	var list func(s string, more int)
	list = func(s string, more int) {
		texts = append(texts, s)
		if more == 0 {
			return
		}
		for _, sign := range []string{"a", "/", ".", "\xFF"} {
			list(s+sign, more-1)
		}
	}
	list("", 4)
	for _, base := range texts {
		for _, s := range texts {
			folder, _ := path.Split(base)
			if got := dots.Merge(base, false, s); got != folder+s {
				t.Errorf("Merge(%q, false, %q) = %q, want %q", base, s, got, folder+s)
			}
			if base == "" {
				folder = "/"
			}
			if got := dots.Merge(base, true, s); got != folder+s {
				t.Errorf("Merge(%q, true, %q) = %q, want %q", base, s, got, folder+s)
			}
		}
	}
}

// P16.1, P16.2, P16.3, P1: many texts of steps, and of any bytes.
func TestManyTexts(t *testing.T) {
	steps := []string{".", "..", ".", "..", "", "a", "b", "...", "..a", ".a", "a.", "%2e", "\xFF", "?", "#", "\\"}
	next := chance()
	for range 100000 {
		var list []string
		for range next(12) {
			list = append(list, steps[next(len(steps))])
		}
		hold(t, strings.Join(list, "/"))
		hold(t, "/"+strings.Join(list, "/"))
		s := make([]byte, next(9))
		for i := range s {
			s[i] = byte(next(256))
		}
		hold(t, string(s))
	}
}

// P1: a path of many steps ends, too.
func TestLongPaths(t *testing.T) {
	const many = 100000
	for s, want := range map[string]string{
		strings.Repeat("/a", many) + strings.Repeat("/..", many):   "/",
		strings.Repeat("/a", many) + strings.Repeat("/..", many-1): "/a/",
		strings.Repeat("../", many) + "a":                          "a",
		strings.Repeat("/./", many):                                strings.Repeat("/", many),
		strings.Repeat("/", many):                                  strings.Repeat("/", many),
		strings.Repeat("a/../", many):                              "/",
	} {
		if got := dots.Remove(s); got != want {
			t.Errorf("Remove of %d bytes, %.9s and so on, has %d bytes, want %d", len(s), s, len(got), len(want))
		}
	}
}
