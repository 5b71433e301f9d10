package resolve_test

import (
	"regexp"
	"strings"

	"mantrap/abnf"
	"mantrap/api"
	"mantrap/dots"
)

// mix tells parts that are taken of several ones.
func mix(scheme, authority abnf.Parts, path string, query, fragment abnf.Parts) abnf.Parts {
	return abnf.Parts{
		Scheme: scheme.Scheme, HasScheme: scheme.HasScheme,
		User: authority.User, HasUser: authority.HasUser, Host: authority.Host, HasAuthority: authority.HasAuthority, Port: authority.Port, HasPort: authority.HasPort,
		Path:  path,
		Query: query.Query, HasQuery: query.HasQuery,
		Fragment: fragment.Fragment, HasFragment: fragment.HasFragment,
	}
}

// both tells what comes of a base b and a reference r, a line for each sort of reference.
func both(b, r abnf.Parts) abnf.Parts {
	folder := b.Path[:strings.LastIndex(b.Path, "/")+1]
	if b.HasAuthority && b.Path == "" {
		folder = "/"
	}
	switch {
	case r.HasScheme:
		return mix(r, r, dots.Remove(r.Path), r, r)
	case r.HasAuthority:
		return mix(b, r, dots.Remove(r.Path), r, r)
	case r.Path == "" && r.HasQuery:
		return mix(b, b, b.Path, r, r)
	case r.Path == "":
		return mix(b, b, b.Path, b, r)
	case r.Path[0] == '/':
		return mix(b, b, dots.Remove(r.Path), r, r)
	}
	return mix(b, b, dots.Remove(folder+r.Path), r, r)
}

// shape is the expression of RFC 3986, appendix B: it reads each text.
var shape = regexp.MustCompile(`(?s)\A(([^:/?#]+):)?(//([^/?#]*))?([^?#]*)(\?([^#]*))?(#(.*))?\z`)

// five are the components that a text has by that expression, each with the
// signs by which it is told from the others.
type five struct{ scheme, authority, path, query, fragment string }

func split(s string) five {
	m := shape.FindStringSubmatch(s)
	return five{m[1], m[3], m[5], m[6], m[8]}
}

func (f five) join() string {
	return f.scheme + f.authority + f.path + f.query + f.fragment
}

// transform tells what comes of a base b and a reference r, as RFC 3986 has it in 5.2.2.
func transform(b, r five) five {
	switch {
	case r.scheme != "":
		return five{r.scheme, r.authority, removed(r.path), r.query, r.fragment}
	case r.authority != "":
		return five{b.scheme, r.authority, removed(r.path), r.query, r.fragment}
	case r.path == "" && r.query != "":
		return five{b.scheme, b.authority, b.path, r.query, r.fragment}
	case r.path == "":
		return five{b.scheme, b.authority, b.path, b.query, r.fragment}
	case strings.HasPrefix(r.path, "/"):
		return five{b.scheme, b.authority, removed(r.path), r.query, r.fragment}
	}
	return five{b.scheme, b.authority, removed(merged(b, r.path)), r.query, r.fragment}
}

// lastStep is what stands behind the last slash.
var lastStep = regexp.MustCompile(`[^/]*\z`)

// merged tells a path behind a base's, as RFC 3986 has it in 5.2.3.
func merged(b five, path string) string {
	if b.authority != "" && b.path == "" {
		return "/" + path
	}
	return lastStep.ReplaceAllString(b.path, "") + path
}

// removed tells a path without points, by a stack of its steps: what is rooted
// has each step with the / ahead of it; what isn't loses the points ahead first.
func removed(s string) string {
	for s != "" && s[0] != '/' {
		first, rest, more := strings.Cut(s, "/")
		if first != "." && first != ".." {
			return strings.Join(pushed([]string{first}, s[len(first):]), "")
		}
		if !more {
			return ""
		}
		s = rest
	}
	return strings.Join(pushed(nil, s), "")
}

// pushed tells the steps of a rooted path, or of none, put on a stack.
func pushed(stack []string, rooted string) []string {
	if rooted == "" {
		return stack
	}
	steps := strings.Split(rooted[1:], "/")
	for i, step := range steps {
		points := step == "." || step == ".."
		switch {
		case step == ".." && len(stack) > 0:
			stack = stack[:len(stack)-1]
		case !points:
			stack = append(stack, "/"+step)
		}
		if points && i == len(steps)-1 {
			stack = append(stack, "/")
		}
	}
	return stack
}

// read tells what comes of two texts. What has the signs of a reference, since
// it comes of two, is right, if it is read again as what it was put together of.
func read(base, ref string) (string, api.Errno) {
	if _, e := abnf.Parse(base); e != api.OK {
		return "", e
	}
	if split(base).scheme == "" {
		return "", api.ErrScheme
	}
	if _, e := abnf.Parse(ref); e != api.OK {
		return "", e
	}
	f := transform(split(base), split(ref))
	s := f.join()
	if split(s) != f || len(s) > 4096 {
		return "", api.ErrGrammar
	}
	return s, api.OK
}

// readAll tells what comes of a base and references, from the last one on.
func readAll(base string, refs ...string) (string, api.Errno) {
	if len(refs) == 0 {
		return base, api.OK
	}
	last := len(refs) - 1
	s, e := readAll(base, refs[:last]...)
	if e != api.OK {
		return "", e
	}
	return read(s, refs[last])
}
