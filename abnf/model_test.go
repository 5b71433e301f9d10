package abnf_test

import (
	"net/netip"
	"regexp"
	"strings"

	"mantrap/abnf"
	"mantrap/api"
)

// letters are the unreserved signs and the sub-delims, as a class has them.
const letters = `A-Za-z0-9._~!$&'()*+,;=\-`

// row tells the expression of as many signs as one likes.
func row(more string) string { return one(more) + `*` }

// one tells the expression of one sign.
func one(more string) string { return `(?:[` + letters + more + `]|%[0-9A-Fa-f]{2})` }

// shape is a reference with or without a scheme, with or without an authority:
// no text has two of these shapes, so that no order of reading needs be known.
type shape struct {
	scheme, authority bool
	form              *regexp.Regexp
}

var (
	ahead  = regexp.MustCompile(`\A[^:/?#]*:`) // what stands where a scheme does
	scheme = regexp.MustCompile(`\A[A-Za-z][A-Za-z0-9+.-]*:\z`)
	future = regexp.MustCompile(`\A[vV][0-9A-Fa-f]+\.[` + letters + `:]+\z`)
	shapes = []shape{newShape(false, false), newShape(false, true), newShape(true, false), newShape(true, true)}
)

func newShape(scheme, authority bool) shape {
	step := one(`:@`)
	steps := `(?:/` + step + `*)*`
	path := `(?:/(?:` + step + `+` + steps + `)?|` + step + `+` + steps + `|)`
	form := ``
	switch {
	case scheme:
		form = `(?P<scheme>[A-Za-z][A-Za-z0-9+.-]*):`
	case !authority:
		path = `(?:/(?:` + step + `+` + steps + `)?|` + one(`@`) + `+` + steps + `|)`
	}
	if authority {
		path = steps
		form += `//(?:(?P<user>` + row(`:`) + `)@)?(?P<host>\[[^\[\]]*\]|` + row(``) + `)(?::(?P<port>[0-9]*))?`
	}
	form += `(?P<path>` + path + `)(?:\?(?P<query>` + row(`:@/?`) + `))?(?:#(?P<fragment>` + row(`:@/?`) + `))?`
	return shape{scheme, authority, regexp.MustCompile(`\A` + form + `\z`)}
}

// read tells the parts that a text of the shape has.
func (f shape) read(s string) (abnf.Parts, bool) {
	where := f.form.FindStringSubmatchIndex(s)
	if where == nil {
		return abnf.Parts{}, false
	}
	part := func(name string) (string, bool) {
		i := f.form.SubexpIndex(name)
		if i < 0 || where[2*i] < 0 {
			return "", false
		}
		return s[where[2*i]:where[2*i+1]], true
	}
	p := abnf.Parts{HasScheme: f.scheme, HasAuthority: f.authority}
	p.Scheme, _ = part("scheme")
	p.User, p.HasUser = part("user")
	p.Host, _ = part("host")
	p.Port, p.HasPort = part("port")
	p.Path, _ = part("path")
	p.Query, p.HasQuery = part("query")
	p.Fragment, p.HasFragment = part("fragment")
	if inner, found := strings.CutPrefix(p.Host, "["); found && !mayBeInside(strings.TrimSuffix(inner, "]")) {
		return abnf.Parts{}, false
	}
	return p, true
}

// mayBeInside tells whether a text may stand between [ and ].
func mayBeInside(s string) bool {
	a, err := netip.ParseAddr(s)
	return err == nil && a.Is6() && a.Zone() == "" || future.MatchString(s)
}

// read tells the parts that a text has, by the grammar's shapes.
func read(s string) (abnf.Parts, api.Errno) {
	if len(s) > 4096 {
		return abnf.Parts{}, api.ErrLong
	}
	var found []abnf.Parts
	for _, f := range shapes {
		if p, ok := f.read(s); ok {
			found = append(found, p)
		}
	}
	colon := ahead.FindString(s)
	switch {
	case len(found) > 1:
		panic("the model has read " + s + " twice")
	case colon != "" && !scheme.MatchString(colon):
		return abnf.Parts{}, api.ErrScheme
	case len(found) == 0:
		return abnf.Parts{}, api.ErrGrammar
	}
	return found[0], api.OK
}

// write tells the parts put together, as RFC 3986 has it in 5.3.
func write(p abnf.Parts) string {
	var b strings.Builder
	add := func(has bool, texts ...string) {
		for _, s := range texts {
			if has {
				b.WriteString(s)
			}
		}
	}
	add(p.HasScheme, p.Scheme, ":")
	add(p.HasAuthority, "//")
	add(p.HasAuthority && p.HasUser, p.User, "@")
	add(p.HasAuthority, p.Host)
	add(p.HasAuthority && p.HasPort, ":", p.Port)
	add(true, p.Path)
	add(p.HasQuery, "?", p.Query)
	add(p.HasFragment, "#", p.Fragment)
	return b.String()
}

// is tells whether a text can be cut into signs that it may have.
func is(s, of string) bool {
	const known = "ABCDEFGHIJKLMNOPQRSTUVWXYZabcdefghijklmnopqrstuvwxyz0123456789-._~!$&'()*+,;="
	const hex = "0123456789ABCDEFabcdef"
	if s == "" {
		return true
	}
	in := func(list string, i int) bool {
		return i < len(s) && strings.Contains(list, s[i:i+1])
	}
	if (in(known, 0) || in(of, 0)) && is(s[1:], of) {
		return true
	}
	return in("%", 0) && in(hex, 1) && in(hex, 2) && is(s[3:], of)
}
