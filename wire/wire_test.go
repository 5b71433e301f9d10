package wire_test

import (
	"math"
	"slices"
	"strconv"
	"strings"
	"testing"

	"mantrap/addr"
	"mantrap/api"
	"mantrap/authority"
	"mantrap/domain"
	"mantrap/four"
	"mantrap/pin"
	"mantrap/policy"
	"mantrap/six"
	"mantrap/wire"
)

const longest = int64(1) << 31 // how many ticks a reply takes at most

var (
	x = four.Of(8, 8, 8, 8)
	y = six.Addr{Hi: 0x2606_4700 << 32, Lo: 1}
	z = four.Of(9, 9, 9, 9)
)

// chance tells a source of numbers that look like chance, the same ones at each run.
func chance() func(below int) int {
	state := uint64(1)
	return func(below int) int {
		state = state*6364136223846793005 + 1442695040888963407
		return int((state >> 33) % uint64(below))
	}
}

// pinned tells the pin of some addresses, of a site of a port.
func pinned(t *testing.T, port int, l ...addr.Addr) pin.Pin {
	t.Helper()
	p, line, e := policy.Parse("bare\nallow 0.0.0.0/0\nallow ::/0\nport " + strconv.Itoa(port))
	if e != api.OK {
		t.Fatalf("line %d is no policy's: %d", line, e)
	}
	g, e := policy.Build(p)
	if e != api.OK {
		t.Fatalf("no gate has the port %d: %d", port, e)
	}
	q, e := pin.Approve(g, authority.Site{Scheme: "http", Host: domain.Name("a"), Port: port}, l...)
	if e != api.OK {
		t.Fatalf("%q aren't approved: %d", addr.Texts(l...), e)
	}
	return q
}

// replies tells some of texts, each of which takes one tick more than the one ahead.
func replies(texts ...string) []wire.Reply {
	var list []wire.Reply
	for i, text := range texts {
		list = append(list, wire.Reply{Text: text, Takes: int64(i + 1)})
	}
	return list
}

// checkDial holds Dial against what is wanted.
func checkDial(t *testing.T, w *wire.Wire, p pin.Pin, a addr.Addr, want api.Errno) {
	t.Helper()
	if e := w.Dial(p, a); e != want {
		t.Errorf("Dial(%q) = %d, want %d", addr.Texts(a), e, want)
	}
}

// checkSend holds Send against what is wanted.
func checkSend(t *testing.T, w *wire.Wire, text, reply string, takes int64, want api.Errno) {
	t.Helper()
	if s, n, e := w.Send(text); s != reply || n != takes || e != want {
		t.Errorf("Send(%.100q) = %.100q, %d, %d, want %.100q, %d, %d", text, s, n, e, reply, takes, want)
	}
}

// checkState holds Open, Calls and Sent against what is wanted, twice, since asking changes nothing.
func checkState(t *testing.T, w *wire.Wire, open bool, calls []wire.Call, sent ...string) {
	t.Helper()
	for range 2 {
		if w.Open() != open {
			t.Errorf("Open = %v, want %v", w.Open(), open)
		}
		if got := w.Calls(); !slices.Equal(got, calls) {
			t.Errorf("Calls = %v, want %v", got, calls)
		}
		if got := w.Sent(); !slices.Equal(got, sent) {
			t.Errorf("Sent = %.300q, want %.300q", got, sent)
		}
	}
}

// P23.1: a wire of scripts of no, of one, of many: nobody is dialled, nothing is sent, and it is closed.
func TestNew(t *testing.T) {
	p := pinned(t, 80, x)
	for _, dials := range [][]bool{nil, {}, {true}, {false}, {true, true}, slices.Repeat([]bool{true}, 1000)} {
		for _, l := range [][]wire.Reply{nil, {}, replies("a"), replies("a", "b"), slices.Repeat(replies("a"), 1000)} {
			w := wire.New(dials, l)
			if w == nil {
				t.Fatalf("New of %d dials and %d replies is nil", len(dials), len(l))
			}
			checkState(t, w, false, nil)
			checkSend(t, w, "a", "", 0, api.ErrDial)
			checkState(t, w, false, nil)
		}
	}
	// Two of them, of the same scripts, go on by themselves.
	dials, l := []bool{true, false}, replies("a", "b")
	v, w := wire.New(dials, l), wire.New(dials, l)
	checkDial(t, v, p, x, api.OK)
	checkState(t, w, false, nil)
	checkDial(t, w, p, x, api.OK)
	checkSend(t, v, "1", "a", 1, api.OK)
	checkState(t, w, true, []wire.Call{{Addr: x, Port: 80, Well: true}})
	checkSend(t, w, "2", "a", 1, api.OK)
	checkState(t, v, false, []wire.Call{{Addr: x, Port: 80, Well: true}}, "1")
}

// P23.2: each dial that goes well, and each that doesn't, in the script's order; at its end none does, and that is recorded, too.
func TestDial(t *testing.T) {
	p := pinned(t, 80, x, y)
	for _, dials := range [][]bool{{}, {true}, {false}, {false, true}, {true, false}, {true, true, false, false, true}, slices.Repeat([]bool{true, false, false}, 30)} {
		w := wire.New(dials, nil)
		var calls []wire.Call
		for i := range len(dials) + 4 {
			well, want := i < len(dials) && dials[i], api.ErrDial
			if well {
				want = api.OK
			}
			a := addr.Addr(x)
			if i%2 == 1 {
				a = y
			}
			checkDial(t, w, p, a, want)
			calls = append(calls, wire.Call{Addr: a, Port: 80, Well: well})
			checkState(t, w, well, calls)
		}
	}
}

// P23.2: an open wire is dialled: it stays open where that goes well, and else it is closed.
func TestDialOfAnOpenWire(t *testing.T) {
	p := pinned(t, 80, x, y)
	w := wire.New([]bool{true, true, false, true}, replies("a", "b"))
	checkDial(t, w, p, x, api.OK)
	checkDial(t, w, p, y, api.OK)
	calls := []wire.Call{{Addr: x, Port: 80, Well: true}, {Addr: y, Port: 80, Well: true}}
	checkState(t, w, true, calls)
	checkDial(t, w, p, x, api.ErrDial)
	calls = append(calls, wire.Call{Addr: x, Port: 80})
	checkState(t, w, false, calls)
	checkSend(t, w, "1", "", 0, api.ErrDial)
	checkDial(t, w, p, x, api.OK)
	checkSend(t, w, "2", "a", 1, api.OK)
	checkDial(t, w, p, x, api.ErrDial) // the script is at its end
	w = wire.New([]bool{true}, replies("a"))
	checkDial(t, w, p, x, api.OK)
	checkDial(t, w, p, x, api.ErrDial)
	checkState(t, w, false, []wire.Call{{Addr: x, Port: 80, Well: true}, {Addr: x, Port: 80}})
	checkSend(t, w, "1", "", 0, api.ErrDial)
}

// P23.2, P23.4: of an address that the pin doesn't have nothing is done: no
// dial is taken, nothing is recorded, and the wire is as it was, open or closed.
func TestDialOfOthers(t *testing.T) {
	wide := six.Addr{Lo: 0xFFFF_0808_0808} // the same numbers as x has
	narrow := four.Of(10, 0, 0, 1)
	p, q := pinned(t, 80, x, y, narrow), pinned(t, 80, wide, z)
	none, nobody := pin.Pin{}, pin.Pin{Site: p.Site}
	for _, c := range []struct {
		p pin.Pin
		a addr.Addr
	}{
		{p, z}, {p, wide}, {p, nil}, {p, six.Addr{Lo: 0x0808_0808}}, {p, six.Addr{Lo: 0xFFFF_0A00_0001}}, {p, four.Addr(0)}, {p, six.Addr{}}, {p, four.Of(8, 8, 8, 9)}, {p, six.Addr{Hi: 0x2606_4700 << 32}}, {p, six.Addr{Lo: 1}},
		{q, x}, {q, y}, {q, nil}, {q, six.Addr{Lo: 0xFFFF_0909_0909}},
		{none, x}, {none, y}, {none, nil}, {none, four.Addr(0)}, {none, six.Addr{}}, {nobody, x}, {nobody, nil},
	} {
		w := wire.New([]bool{true, false, true}, replies("a"))
		checkDial(t, w, c.p, c.a, api.ErrDenied)
		checkState(t, w, false, nil)
		checkSend(t, w, "1", "", 0, api.ErrDial)
		checkDial(t, w, p, x, api.OK) // the first dial is there yet
		calls := []wire.Call{{Addr: x, Port: 80, Well: true}}
		checkState(t, w, true, calls)
		checkDial(t, w, c.p, c.a, api.ErrDenied)
		checkState(t, w, true, calls)
		checkSend(t, w, "2", "a", 1, api.OK) // it is open as it was
		checkDial(t, w, c.p, c.a, api.ErrDenied)
		checkState(t, w, false, calls, "2")
		checkDial(t, w, p, x, api.ErrDial)
		checkDial(t, w, c.p, c.a, api.ErrDenied)
		checkDial(t, w, p, y, api.OK)
		calls = append(calls, wire.Call{Addr: x, Port: 80}, wire.Call{Addr: y, Port: 80, Well: true})
		checkState(t, w, true, calls, "2")
		// At the script's end, too, the address is looked at first.
		checkDial(t, w, p, x, api.ErrDial)
		checkDial(t, w, c.p, c.a, api.ErrDenied)
		checkState(t, w, false, append(calls, wire.Call{Addr: x, Port: 80}), "2")
	}
	w := wire.New([]bool{true}, nil)
	checkDial(t, w, q, wide, api.OK)
	checkState(t, w, true, []wire.Call{{Addr: wide, Port: 80, Well: true}})
}

// P23.2: what is recorded: the address as it was dialled, of either sort, and the port of the pin's site.
func TestWhatIsRecorded(t *testing.T) {
	wide := six.Addr{Lo: 0xFFFF_0808_0808}
	w := wire.New([]bool{true, false, true, true, false}, nil)
	var calls []wire.Call
	for i, c := range []wire.Call{{x, 80, true}, {wide, 443, false}, {y, 65535, true}, {four.Addr(0), 1, true}, {six.Addr{}, 8080, false}, {four.Addr(math.MaxUint32), 8080, false}} {
		p := pinned(t, c.Port, z, c.Addr, y)
		want := api.ErrDial
		if c.Well {
			want = api.OK
		}
		checkDial(t, w, p, c.Addr, want)
		calls = append(calls, c)
		checkState(t, w, c.Well, calls)
		if len(calls) != i+1 {
			t.Fatalf("%d calls", len(calls))
		}
	}
	// The port is the site's, as that stands in the pin when it is dialled.
	p := pinned(t, 80, x)
	w = wire.New([]bool{true, true, true}, nil)
	checkDial(t, w, p, x, api.OK)
	p.Site.Port = -7
	checkDial(t, w, p, x, api.OK)
	p.Site = authority.Site{}
	checkDial(t, w, p, x, api.OK)
	checkState(t, w, true, []wire.Call{{x, 80, true}, {x, -7, true}, {x, 0, true}})
}

// P23.3, P23.4: Send ahead of any dial, behind one that went well, behind one that didn't, and twice behind one.
func TestSend(t *testing.T) {
	p := pinned(t, 80, x)
	w := wire.New([]bool{false, true, true, false, true}, replies("a", "", "c"))
	checkSend(t, w, "1", "", 0, api.ErrDial)
	checkSend(t, w, "", "", 0, api.ErrDial)
	checkState(t, w, false, nil)
	checkDial(t, w, p, x, api.ErrDial)
	checkSend(t, w, "2", "", 0, api.ErrDial)
	calls := []wire.Call{{Addr: x, Port: 80}}
	checkState(t, w, false, calls)
	checkDial(t, w, p, x, api.OK)
	calls = append(calls, wire.Call{Addr: x, Port: 80, Well: true})
	checkSend(t, w, "3", "a", 1, api.OK)
	checkState(t, w, false, calls, "3")
	for range 3 {
		checkSend(t, w, "4", "", 0, api.ErrDial)
		checkState(t, w, false, calls, "3")
	}
	checkDial(t, w, p, x, api.OK)
	calls = append(calls, wire.Call{Addr: x, Port: 80, Well: true})
	checkSend(t, w, "", "", 2, api.OK) // an empty text is one, and an empty reply, too
	checkState(t, w, false, calls, "3", "")
	checkDial(t, w, p, x, api.ErrDial)
	checkSend(t, w, "5", "", 0, api.ErrDial)
	checkDial(t, w, p, x, api.OK)
	calls = append(calls, wire.Call{Addr: x, Port: 80}, wire.Call{Addr: x, Port: 80, Well: true})
	checkSend(t, w, "3", "c", 3, api.OK)
	checkState(t, w, false, calls, "3", "", "3")
}

// P23.3: whatever the texts are, they are sent, and come back, as they stand.
func TestTextsAsTheyStand(t *testing.T) {
	texts := []string{"", "a", "\x00", "\xFF\xFE", "a\r\nb\n", "GET / HTTP/1.1\r\n\r\n", "\u00E9\u2028", strings.Repeat("x", 100000), " "}
	p := pinned(t, 80, x)
	for _, text := range texts {
		for _, reply := range texts {
			w := wire.New([]bool{true}, []wire.Reply{{Text: reply, Takes: 7}})
			checkDial(t, w, p, x, api.OK)
			checkSend(t, w, text, reply, 7, api.OK)
			checkState(t, w, false, []wire.Call{{x, 80, true}}, text)
		}
	}
}

// P23.3: how many ticks a reply takes: 0, where that is below 0, or above 2^31.
func TestTicks(t *testing.T) {
	p := pinned(t, 80, x)
	for takes, want := range map[int64]int64{
		math.MinInt64: 0, math.MinInt64 + 1: 0, -longest - 1: 0, -longest: 0, -longest + 1: 0, -1000: 0, -2: 0, -1: 0,
		0: 0, 1: 1, 2: 2, 1000: 1000, 1<<31 - 3: longest - 3, longest - 2: longest - 2, longest - 1: longest - 1, longest: longest,
		longest + 1: 0, longest + 2: 0, 2*longest - 1: 0, 2 * longest: 0, 2*longest + 1: 0, 1 << 33: 0, 1 << 62: 0, math.MaxInt64 - 1: 0, math.MaxInt64: 0,
	} {
		w := wire.New([]bool{true, true}, []wire.Reply{{Text: "a", Takes: takes}, {Text: "b", Takes: takes}})
		for _, text := range []string{"a", "b"} {
			checkDial(t, w, p, x, api.OK)
			checkSend(t, w, "1", text, want, api.OK)
		}
	}
}

// P23.3: at the replies' end there is none, once and again; what was sent is recorded there, too, and the wire is closed.
func TestEndOfTheReplies(t *testing.T) {
	p := pinned(t, 80, x)
	for n := range 4 {
		w := wire.New(slices.Repeat([]bool{true}, n+3), slices.Repeat(replies("a"), n))
		var calls []wire.Call
		var sent []string
		for i := range n + 3 {
			checkDial(t, w, p, x, api.OK)
			calls = append(calls, wire.Call{Addr: x, Port: 80, Well: true})
			checkState(t, w, true, calls, sent...)
			text := strconv.Itoa(i)
			if i < n {
				checkSend(t, w, text, "a", 1, api.OK)
			} else {
				checkSend(t, w, text, "", 0, api.ErrHead)
			}
			sent = append(sent, text)
			checkState(t, w, false, calls, sent...)
			checkSend(t, w, "again", "", 0, api.ErrDial)
			checkState(t, w, false, calls, sent...)
		}
	}
}

// P23.1: a clone goes on where the wire is, and each of both by itself.
func TestClone(t *testing.T) {
	p := pinned(t, 80, x, y)
	first := func(w *wire.Wire) {
		checkDial(t, w, p, x, api.OK)
		checkSend(t, w, "1", "a", 1, api.OK)
		checkDial(t, w, p, y, api.OK)
	}
	calls := []wire.Call{{x, 80, true}, {y, 80, true}}
	on := func(w *wire.Wire, text string) {
		checkState(t, w, true, calls, "1")
		checkSend(t, w, text, "b", 2, api.OK)
		checkState(t, w, false, calls, "1", text)
		checkDial(t, w, p, x, api.ErrDial)
		checkDial(t, w, p, y, api.OK)
		checkState(t, w, true, append(slices.Clone(calls), wire.Call{Addr: x, Port: 80}, wire.Call{Addr: y, Port: 80, Well: true}), "1", text)
		checkSend(t, w, "", "c", 3, api.OK)
		checkDial(t, w, p, y, api.ErrDial)
	}
	for range 2 {
		w := wire.New([]bool{true, true, false, true}, replies("a", "b", "c"))
		fresh := w.Clone()
		first(w)
		checkState(t, fresh, false, nil)
		twin := w.Clone()
		third := twin.Clone()
		on(twin, "2")
		on(w, "3")
		on(third, "4")
		first(fresh)
		on(fresh, "5")
		checkState(t, fresh.Clone(), false, fresh.Calls(), fresh.Sent()...)
	}
	// A clone is closed, where the wire is, and what the wire does later it doesn't.
	w := wire.New([]bool{true, true}, replies("a"))
	twin := w.Clone()
	checkDial(t, twin, p, x, api.OK)
	checkState(t, w, false, nil)
	checkSend(t, w, "1", "", 0, api.ErrDial)
	checkDial(t, w, p, y, api.OK)
	checkState(t, twin, true, []wire.Call{{x, 80, true}})
	checkSend(t, w, "2", "a", 1, api.OK)
	checkState(t, twin, true, []wire.Call{{x, 80, true}})
	checkSend(t, twin, "3", "a", 1, api.OK)
	checkState(t, w, false, []wire.Call{{y, 80, true}}, "2")
}

// P23.1: records that grow apart behind a clone, whatever room was spare in them.
func TestCloneWithSpareRoom(t *testing.T) {
	p := pinned(t, 80, x, y)
	for n := range 20 {
		w := wire.New(slices.Repeat([]bool{true}, n+1), nil)
		var calls []wire.Call
		var sent []string
		for i := range n {
			checkDial(t, w, p, x, api.OK)
			checkSend(t, w, strconv.Itoa(i), "", 0, api.ErrHead)
			calls, sent = append(calls, wire.Call{Addr: x, Port: 80, Well: true}), append(sent, strconv.Itoa(i))
		}
		twin := w.Clone()
		checkDial(t, w, p, x, api.OK)
		checkDial(t, twin, p, y, api.OK)
		checkSend(t, w, "w", "", 0, api.ErrHead)
		checkSend(t, twin, "twin", "", 0, api.ErrHead)
		checkState(t, w, false, append(slices.Clone(calls), wire.Call{Addr: x, Port: 80, Well: true}), append(slices.Clone(sent), "w")...)
		checkState(t, twin, false, append(slices.Clone(calls), wire.Call{Addr: y, Port: 80, Well: true}), append(slices.Clone(sent), "twin")...)
	}
}

// P23.1 to P23.3: a nil wire in each call: ErrNil ahead of all else, none, false.
func TestNil(t *testing.T) {
	var w *wire.Wire
	p := pinned(t, 80, x)
	for range 2 {
		checkDial(t, w, p, x, api.ErrNil)
		checkDial(t, w, p, z, api.ErrNil)
		checkDial(t, w, p, nil, api.ErrNil)
		checkDial(t, w, pin.Pin{}, x, api.ErrNil)
		checkSend(t, w, "", "", 0, api.ErrNil)
		checkSend(t, w, "1", "", 0, api.ErrNil)
		checkState(t, w, false, nil)
		if w.Clone() != nil {
			t.Error("a nil wire has a clone")
		}
	}
}

// Memory: what was handed in, spare room included, and what was handed out, is written into afterwards.
func TestNothingIsShared(t *testing.T) {
	p := pinned(t, 80, x, y)
	dials, l := []bool{true, false, true, true, false}, replies("a", "b", "c", "d")
	dialsWere, lWere := slices.Clone(dials), slices.Clone(l)
	w := wire.New(dials[:3], l[:2])
	twin := w.Clone()
	run := func(w *wire.Wire) {
		checkDial(t, w, p, x, api.OK)
		checkSend(t, w, "1", "a", 1, api.OK)
		checkDial(t, w, p, y, api.ErrDial)
		checkDial(t, w, p, y, api.OK)
		checkSend(t, w, "2", "b", 2, api.OK)
		checkDial(t, w, p, y, api.ErrDial)
	}
	run(wire.New(dials[:3], l[:2]))
	if !slices.Equal(dials, dialsWere) || !slices.Equal(l, lWere) {
		t.Errorf("what was handed in is %v, %v now", dials, l)
	}
	for i := range dials {
		dials[i] = !dials[i]
	}
	clear(l)
	run(w)
	run(twin)
	calls := []wire.Call{{x, 80, true}, {y, 80, false}, {y, 80, true}, {y, 80, false}}
	for range 2 {
		for _, one := range []*wire.Wire{w, twin, w.Clone()} {
			checkState(t, one, false, calls, "1", "2")
			c, d, s, u := one.Calls(), one.Calls(), one.Sent(), one.Sent()
			c, s = append(c, wire.Call{}), append(s, "3")
			clear(c[:cap(c)])
			clear(s[:cap(s)])
			if !slices.Equal(d, calls) || !slices.Equal(u, []string{"1", "2"}) {
				t.Errorf("two answers are one: %v, %q", d, u)
			}
			d = append(d[:1], wire.Call{})
			u = append(u[:1], "4")
			checkState(t, one, false, calls, "1", "2")
		}
	}
	// An answer stays as it was, when the wire goes on.
	w = wire.New([]bool{true, true}, nil)
	checkDial(t, w, p, x, api.OK)
	c, s := w.Calls(), w.Sent()
	checkSend(t, w, "1", "", 0, api.ErrHead)
	checkDial(t, w, p, y, api.OK)
	if len(s) != 0 || !slices.Equal(c, []wire.Call{{x, 80, true}}) {
		t.Errorf("an answer is %v, %q now", c, s)
	}
}

// model does as a wire is to do, by where it is in its scripts.
type model struct {
	dials        []bool
	replies      []wire.Reply
	dialled, got int
	open         bool
	calls        []wire.Call
	sent         []string
}

func (m *model) dial(has bool, port int, a addr.Addr) api.Errno {
	if !has {
		return api.ErrDenied
	}
	m.open = m.dialled < len(m.dials) && m.dials[m.dialled]
	m.dialled++
	m.calls = append(slices.Clone(m.calls), wire.Call{Addr: a, Port: port, Well: m.open})
	if m.open {
		return api.OK
	}
	return api.ErrDial
}

func (m *model) send(text string) (string, int64, api.Errno) {
	if !m.open {
		return "", 0, api.ErrDial
	}
	m.open = false
	m.sent = append(slices.Clone(m.sent), text)
	m.got++
	if m.got > len(m.replies) {
		return "", 0, api.ErrHead
	}
	r := m.replies[m.got-1]
	if r.Takes < 0 || r.Takes > 1<<31 {
		r.Takes = 0
	}
	return r.Text, r.Takes, api.OK
}

// P23.1 to P23.4: scripts and calls by chance, some by clones, held against a
// model; and nobody is dialled whom no pin had, nothing is sent but once behind a dial that went well.
func TestAgainstAModel(t *testing.T) {
	next, told := chance(), map[api.Errno]int{}
	whole := []addr.Addr{x, y, z, four.Addr(1), six.Addr{Lo: 1}, six.Addr{Lo: 0xFFFF_0808_0808}}
	var pins []pin.Pin
	var of [][]addr.Addr
	for i := range 12 {
		l := slices.DeleteFunc(slices.Clone(whole), func(addr.Addr) bool { return next(3) == 0 })
		if len(l) == 0 {
			l = whole[:1]
		}
		pins, of = append(pins, pinned(t, 80+i, l...)), append(of, l)
	}
	pins, of = append(pins, pin.Pin{}), append(of, nil)
	whole = append(whole, nil)
	for range 3000 {
		m := &model{}
		for range next(12) {
			m.dials = append(m.dials, next(3) > 0)
		}
		for i := range next(8) {
			m.replies = append(m.replies, wire.Reply{Text: strconv.Itoa(i), Takes: int64(next(10)-2) << (next(2) * 29)})
		}
		w := wire.New(m.dials, m.replies)
		sends := 0
		for step := range 40 {
			switch next(8) {
			case 0, 1, 2, 3:
				i, a := next(len(pins)), whole[next(len(whole))]
				want := m.dial(slices.Contains(of[i], a), pins[i].Site.Port, a)
				checkDial(t, w, pins[i], a, want)
				told[want]++
				if c := w.Calls(); want != api.ErrDenied && !slices.Contains(of[i], c[len(c)-1].Addr) {
					t.Fatalf("%v is dialled", c[len(c)-1])
				}
			case 4, 5, 6:
				text := strconv.Itoa(step)
				reply, takes, want := m.send(text)
				checkSend(t, w, text, reply, takes, want)
				told[want]++
				if want != api.ErrDial {
					sends++
				}
			default:
				left := w
				w = w.Clone()
				if next(2) == 0 { // what becomes of the other one counts for nothing
					left.Dial(pins[0], of[0][0])
					left.Send("left")
				}
			}
			checkState(t, w, m.open, m.calls, m.sent...)
			if t.Failed() {
				return
			}
		}
		well := 0
		for _, c := range w.Calls() {
			if c.Well {
				well++
			}
		}
		if len(w.Sent()) != sends || sends > well {
			t.Fatalf("%d were sent, %d wanted, behind %d dials that went well", len(w.Sent()), sends, well)
		}
	}
	for _, e := range []api.Errno{api.OK, api.ErrDenied, api.ErrDial, api.ErrHead} {
		if told[e] < 1000 {
			t.Errorf("but %d are %d", told[e], e)
		}
	}
}

// What the chapter's example says.
func TestExample(t *testing.T) {
	p := pinned(t, 80, x)
	w := wire.New([]bool{false, true}, replies("first"))
	checkDial(t, w, p, x, api.ErrDial)
	checkDial(t, w, p, x, api.OK)
	checkSend(t, w, "1", "first", 1, api.OK)
}
