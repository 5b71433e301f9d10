package whatwg_test

import (
	"fmt"
	"math/big"
	"slices"
	"strings"

	"mantrap/api"
	"mantrap/host"
	"mantrap/url"
)

// What is written by % in each place, besides controls and all above 7E.
const (
	fragmentSet = " \"<>`"
	querySet    = " \"#<>'"
	pathSet     = " \"#<>?^`{}"
	userinfoSet = pathSet + "/:;=@[\\]|"
)

// end is what the model is handed behind the last code point.
const end = rune(-1)

// model reads a text state by state, with a pointer that goes back, as browsers
// are told to: it shares no way with what it is held against.
type model struct {
	base   *url.URL
	text   []rune
	at     int
	state  func(c rune) (api.Errno, bool)
	buffer string

	atSeen, passSeen, inside bool

	u url.URL
}

// read tells the URL that a text is, by the model.
func read(text string, base *url.URL) (url.URL, api.Errno) {
	if len(text) > 4096 {
		return url.URL{}, api.ErrLong
	}
	controls := ""
	for c := range 0x21 {
		controls += string(rune(c))
	}
	text = strings.NewReplacer("\t", "", "\n", "", "\r", "").Replace(strings.Trim(text, controls))
	m := &model{base: base, text: []rune(text), u: url.URL{Port: -1}}
	m.state = m.schemeStart
	for ; ; m.at++ {
		c := end
		if m.at < len(m.text) {
			c = m.text[m.at]
		}
		if e, failed := m.state(c); failed {
			return url.URL{}, e
		}
		if m.at >= len(m.text) {
			return m.u, api.OK
		}
	}
}

// again has the code point read by another state.
func (m *model) again(state func(c rune) (api.Errno, bool)) (api.Errno, bool) {
	m.at--
	m.state = state
	return api.OK, false
}

// goOn has the next code point read by another state.
func (m *model) goOn(state func(c rune) (api.Errno, bool)) (api.Errno, bool) {
	m.buffer = ""
	m.state = state
	return api.OK, false
}

func letter(c rune) bool { return 'a' <= c && c <= 'z' || 'A' <= c && c <= 'Z' }
func digit(c rune) bool  { return '0' <= c && c <= '9' }
func slash(c rune) bool  { return c == '/' || c == '\\' }
func ends(c rune) bool   { return c == end || slash(c) || c == '?' || c == '#' }

func escape(c rune, set string) string {
	if c > 0x1F && c <= 0x7E && !strings.ContainsRune(set, c) {
		return string(c)
	}
	out := ""
	for _, b := range []byte(string(c)) {
		out += fmt.Sprintf("%%%02X", b)
	}
	return out
}

func (m *model) secondSlash() bool {
	return m.at+1 < len(m.text) && m.text[m.at+1] == '/'
}

func (m *model) schemeStart(c rune) (api.Errno, bool) {
	if !letter(c) {
		return m.again(m.noScheme)
	}
	return m.again(m.scheme)
}

func (m *model) scheme(c rune) (api.Errno, bool) {
	switch {
	case letter(c):
		m.buffer += strings.ToLower(string(c))
	case digit(c), c == '+', c == '-', c == '.':
		m.buffer += string(c)
	case c == ':':
		m.u.Scheme = m.buffer
		if m.u.Scheme != "http" && m.u.Scheme != "https" {
			return api.ErrScheme, true
		}
		if m.base != nil && m.base.Scheme == m.u.Scheme {
			return m.goOn(m.relativeOrAuthority)
		}
		return m.goOn(m.ignoreSlashes)
	default:
		m.buffer = ""
		m.at = 0
		return m.again(m.noScheme)
	}
	return api.OK, false
}

func (m *model) noScheme(c rune) (api.Errno, bool) {
	if m.base == nil {
		return api.ErrScheme, true
	}
	return m.again(m.relative)
}

func (m *model) relativeOrAuthority(c rune) (api.Errno, bool) {
	if c == '/' && m.secondSlash() {
		m.at++
		return m.goOn(m.ignoreSlashes)
	}
	return m.again(m.relative)
}

func (m *model) ignoreSlashes(c rune) (api.Errno, bool) {
	if slash(c) {
		return api.OK, false
	}
	return m.again(m.authority)
}

func (m *model) asBase() {
	m.u.User, m.u.Pass, m.u.Host, m.u.Port = m.base.User, m.base.Pass, m.base.Host, m.base.Port
}

func (m *model) relative(c rune) (api.Errno, bool) {
	m.u.Scheme = m.base.Scheme
	if slash(c) {
		return m.goOn(m.relativeSlash)
	}
	m.asBase()
	m.u.Path, m.u.Query, m.u.HasQuery = slices.Clone(m.base.Path), m.base.Query, m.base.HasQuery
	switch c {
	case '?':
		m.u.Query, m.u.HasQuery = "", true
		return m.goOn(m.query)
	case '#':
		m.u.HasFragment = true
		return m.goOn(m.fragment)
	case end:
		return api.OK, false
	}
	m.u.Query, m.u.HasQuery = "", false
	m.shorten()
	return m.again(m.path)
}

func (m *model) relativeSlash(c rune) (api.Errno, bool) {
	if slash(c) {
		return m.goOn(m.ignoreSlashes)
	}
	m.asBase()
	return m.again(m.path)
}

func (m *model) authority(c rune) (api.Errno, bool) {
	if c == '@' {
		if m.atSeen {
			m.buffer = "%40" + m.buffer
		}
		m.atSeen = true
		for _, r := range m.buffer {
			switch {
			case r == ':' && !m.passSeen:
				m.passSeen = true
			case m.passSeen:
				m.u.Pass += escape(r, userinfoSet)
			default:
				m.u.User += escape(r, userinfoSet)
			}
		}
		m.buffer = ""
		return api.OK, false
	}
	if !ends(c) {
		m.buffer += string(c)
		return api.OK, false
	}
	m.at -= len([]rune(m.buffer))
	m.buffer = ""
	return m.again(m.host)
}

func (m *model) host(c rune) (api.Errno, bool) {
	switch {
	case c == ':' && !m.inside:
		if e := m.takeHost(); e != api.OK {
			return e, true
		}
		return m.goOn(m.port)
	case ends(c):
		if e := m.takeHost(); e != api.OK {
			return e, true
		}
		m.buffer = ""
		return m.again(m.pathStart)
	case c == '[':
		m.inside = true
	case c == ']':
		m.inside = false
	}
	m.buffer += string(c)
	return api.OK, false
}

func (m *model) takeHost() (e api.Errno) {
	if m.buffer == "" {
		return api.ErrHost
	}
	m.u.Host, e = host.Parse(m.buffer)
	return e
}

func (m *model) port(c rune) (api.Errno, bool) {
	if digit(c) {
		m.buffer += string(c)
		return api.OK, false
	}
	if !ends(c) {
		return api.ErrPort, true
	}
	if m.buffer != "" {
		n, _ := new(big.Int).SetString(m.buffer, 10)
		if n.Cmp(big.NewInt(65535)) > 0 {
			return api.ErrPort, true
		}
		if m.u.Port = int(n.Int64()); m.u.Port == map[string]int{"http": 80, "https": 443}[m.u.Scheme] {
			m.u.Port = -1
		}
	}
	m.buffer = ""
	return m.again(m.pathStart)
}

func (m *model) pathStart(c rune) (api.Errno, bool) {
	if slash(c) {
		return m.goOn(m.path)
	}
	return m.again(m.path)
}

func (m *model) shorten() {
	if n := len(m.u.Path); n > 0 {
		m.u.Path = m.u.Path[:n-1]
	}
}

func (m *model) path(c rune) (api.Errno, bool) {
	if !ends(c) {
		m.buffer += escape(c, pathSet)
		return api.OK, false
	}
	switch strings.ToLower(m.buffer) {
	case "..", ".%2e", "%2e.", "%2e%2e":
		m.shorten()
		if !slash(c) {
			m.u.Path = append(m.u.Path, "")
		}
	case ".", "%2e":
		if !slash(c) {
			m.u.Path = append(m.u.Path, "")
		}
	default:
		m.u.Path = append(m.u.Path, m.buffer)
	}
	switch c {
	case '?':
		m.u.HasQuery = true
		return m.goOn(m.query)
	case '#':
		m.u.HasFragment = true
		return m.goOn(m.fragment)
	}
	m.buffer = ""
	return api.OK, false
}

func (m *model) query(c rune) (api.Errno, bool) {
	switch c {
	case '#':
		m.u.HasFragment = true
		return m.goOn(m.fragment)
	case end:
	default:
		m.u.Query += escape(c, querySet)
	}
	return api.OK, false
}

func (m *model) fragment(c rune) (api.Errno, bool) {
	if c != end {
		m.u.Fragment += escape(c, fragmentSet)
	}
	return api.OK, false
}
