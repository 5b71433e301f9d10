package cache_test

import (
	"cmp"
	"slices"
	"strconv"
	"strings"
	"testing"

	"mantrap/addr"
	"mantrap/cache"
	"mantrap/domain"
	"mantrap/four"
	"mantrap/six"
)

// last is the greatest tick of which something is promised.
const last = int64(1) << 60

// chance tells a source of numbers that look like chance, the same ones at each run.
func chance() func(below int) int {
	state := uint64(1)
	return func(below int) int {
		state = state*6364136223846793005 + 1442695040888963407
		return int((state >> 33) % uint64(below))
	}
}

// line is what a model has of one name.
type line struct {
	name  domain.Name
	until int64
	addrs []addr.Addr
}

// model is what a cache has to be: its lines by their names, all of them gone through at each question.
type model []line

func (m model) find(name domain.Name) int {
	return slices.IndexFunc(m, func(l line) bool { return l.name == name })
}

func (m *model) put(name domain.Name, until int64, l ...addr.Addr) bool {
	if len(l) == 0 {
		return false
	}
	if i := m.find(name); i >= 0 {
		*m = slices.Delete(*m, i, i+1)
	}
	if len(*m) == 64 {
		goes := 0
		for i, l := range *m {
			if l.until < (*m)[goes].until {
				goes = i
			}
		}
		*m = slices.Delete(*m, goes, goes+1)
	}
	*m = append(*m, line{name, until, slices.Clone(l)})
	slices.SortFunc(*m, func(a, b line) int { return cmp.Compare(a.name, b.name) })
	return true
}

func (m *model) sweep(now int64) int {
	before := len(*m)
	*m = slices.DeleteFunc(*m, func(l line) bool { return l.until <= now })
	return before - len(*m)
}

func (m model) names() []domain.Name {
	var list []domain.Name
	for _, l := range m {
		list = append(list, l.name)
	}
	return list
}

// checkGet holds Get against what is wanted; none, where that is nothing.
func checkGet(t *testing.T, c *cache.Cache, name domain.Name, now int64, want ...addr.Addr) {
	t.Helper()
	if got, ok := c.Get(name, now); !slices.Equal(got, want) || ok != (len(want) > 0) {
		t.Errorf("Get(%q, %d) = %q, %v, want %q", name, now, addr.Texts(got...), ok, addr.Texts(want...))
	}
}

// checkNames holds Names and Len against what is wanted, a text with blanks between.
func checkNames(t *testing.T, c *cache.Cache, want string) {
	t.Helper()
	var list []domain.Name
	for _, word := range strings.Fields(want) {
		list = append(list, domain.Name(word))
	}
	if got := c.Names(); !slices.Equal(got, list) || c.Len() != len(list) {
		t.Errorf("Names = %q, Len = %d, want %q", got, c.Len(), list)
	}
}

// check holds a cache against a model, at some ticks.
func check(t *testing.T, c *cache.Cache, m model, ticks ...int64) {
	t.Helper()
	if got := c.Names(); !slices.Equal(got, m.names()) || c.Len() != len(m) {
		t.Fatalf("Names = %q, Len = %d, want %q", got, c.Len(), m.names())
	}
	for _, l := range m {
		for _, now := range append(ticks, max(l.until-1, 0), l.until, min(l.until+1, last)) {
			if now < l.until {
				checkGet(t, c, l.name, now, l.addrs...)
			} else {
				checkGet(t, c, l.name, now)
			}
		}
	}
}

// put lays a name in, and fails, where that isn't so.
func put(t *testing.T, c *cache.Cache, name domain.Name, until int64, l ...addr.Addr) {
	t.Helper()
	if !c.Put(name, until, l...) {
		t.Errorf("Put(%q, %d) of %d addresses is false", name, until, len(l))
	}
}

// numbered tells a name whose place among the others is that of its number.
func numbered(i int) domain.Name {
	return domain.Name("n" + strconv.Itoa(1000+i))
}

// filled tells a cache of names with numbers from 0 on, and of each number the tick until which it is good.
func filled(t *testing.T, until ...int64) *cache.Cache {
	t.Helper()
	c := cache.New()
	for i, tick := range until {
		put(t, c, numbered(i), tick, four.Addr(i))
	}
	return c
}

// ticks tells so many ticks, all the same.
func ticks(many int, tick int64) []int64 {
	return slices.Repeat([]int64{tick}, many)
}

// P20.1
func TestNew(t *testing.T) {
	c := cache.New()
	if c == nil {
		t.Fatal("New is nil")
	}
	check(t, c, nil)
	checkGet(t, c, "a", 0)
	checkGet(t, c, "", last)
	if n := c.Sweep(last); n != 0 {
		t.Errorf("of no names %d are swept", n)
	}
	put(t, c, "a", 1, four.Addr(1))
	check(t, cache.New(), nil)
}

// P20.2: one name, ahead of its tick, at it, behind it; what isn't there.
func TestGet(t *testing.T) {
	x := four.Of(8, 8, 8, 8)
	for _, until := range []int64{0, 1, 2, 5, 1000, 1 << 31, 1 << 32, last - 1, last} {
		c := cache.New()
		put(t, c, "a", until, x)
		for _, now := range []int64{0, 1, 2, 4, 5, 6, 999, 1000, 1 << 31, until - 1, until, until + 1, last - 1, last} {
			if now < 0 || now > last {
				continue
			}
			if now < until {
				checkGet(t, c, "a", now, x)
			} else {
				checkGet(t, c, "a", now)
			}
			for _, other := range []domain.Name{"", "A", "a.", "b", "aa", "\x00a"} {
				checkGet(t, c, other, now)
			}
		}
		checkNames(t, c, "a") // no question takes anything out
		checkGet(t, c, "a", max(until-1, 0), []addr.Addr{x}[:min(until, 1)]...)
	}
}

// P20.2: any addresses, in their order, also such as stand there twice, and nil.
func TestPutOfManyAddresses(t *testing.T) {
	v4, v6 := four.Of(127, 0, 0, 1), six.Addr{Lo: 0xFFFF_7F00_0001}
	for _, l := range [][]addr.Addr{{v4}, {v6}, {nil}, {v4, v6}, {v6, v4}, {v4, v4, v6, v4}, {nil, v6, nil, v4}, {four.Addr(0), six.Addr{}}, slices.Repeat([]addr.Addr{v6, v4, nil}, 1000)} {
		c := cache.New()
		put(t, c, "a", 5, l...)
		put(t, c, "b", 5, slices.Concat(l, l)...)
		checkGet(t, c, "a", 4, l...)
		checkGet(t, c, "b", 4, slices.Concat(l, l)...)
		checkNames(t, c, "a b")
	}
}

// P20.2, P20.3: a name that is put again: what was told of it last, or nothing.
func TestPutAgain(t *testing.T) {
	x, y := four.Addr(1), six.Addr{Hi: 1}
	c := cache.New()
	put(t, c, "a", 5, x)
	put(t, c, "b", 5, x)
	put(t, c, "a", 7, x)
	checkGet(t, c, "a", 6, x)
	checkGet(t, c, "a", 7)
	put(t, c, "a", 3, y, x)
	checkGet(t, c, "a", 2, y, x)
	checkGet(t, c, "a", 3)
	checkGet(t, c, "a", 4)
	put(t, c, "a", 3, y)
	checkGet(t, c, "a", 2, y)
	put(t, c, "a", 0, y)
	checkGet(t, c, "a", 0)
	checkNames(t, c, "a b")
	checkGet(t, c, "b", 4, x)
	put(t, c, "a", last, nil)
	checkGet(t, c, "a", last-1, nil)
	checkNames(t, c, "a b")
}

// P20.2: of no addresses nothing is done, be the name there or not, and the cache full or not.
func TestPutOfNoAddresses(t *testing.T) {
	x := four.Addr(1)
	for _, c := range []*cache.Cache{cache.New(), filled(t, ticks(62, 9)...), filled(t, ticks(63, 9)...)} {
		put(t, c, "a", 5, x)
		before := c.Names()
		for _, none := range [][]addr.Addr{nil, {}, []addr.Addr{x, x}[:0]} {
			for _, name := range []domain.Name{"a", "b", "", "n1000"} {
				for _, until := range []int64{0, 4, 5, 6, last} {
					if c.Put(name, until, none...) {
						t.Errorf("Put(%q, %d) of no addresses is true", name, until)
					}
				}
			}
		}
		if got := c.Names(); !slices.Equal(got, before) {
			t.Errorf("the names are %q, were %q", got, before)
		}
		checkGet(t, c, "a", 4, x)
		checkGet(t, c, "a", 5)
		if len(before) > 1 {
			checkGet(t, c, "n1000", 8, four.Addr(0))
		}
	}
}

// P20.2: 63 names, 64, and more: never are there more than 64.
func TestFull(t *testing.T) {
	c, m := cache.New(), model{}
	for i := range 200 {
		name, until := numbered(i), int64(1000+i)
		put(t, c, name, until, four.Addr(i))
		m.put(name, until, four.Addr(i))
		check(t, c, m, 0, 1000, 5000)
		if want := min(i+1, 64); c.Len() != want {
			t.Errorf("of %d names there are %d, want %d", i+1, c.Len(), want)
		}
	}
	checkGet(t, c, numbered(135), 0)
	checkGet(t, c, numbered(136), 0, four.Addr(136))
}

// checkGoes fails, where another one than the wanted name makes room for a new one.
func checkGoes(t *testing.T, c *cache.Cache, name domain.Name, until int64, goes domain.Name) {
	t.Helper()
	want := append(c.Names(), name)
	want = slices.DeleteFunc(want, func(n domain.Name) bool { return n == goes })
	slices.Sort(want)
	put(t, c, name, until, four.Addr(7))
	if got := c.Names(); !slices.Equal(got, want) {
		t.Errorf("behind Put(%q, %d) the names are %q, want %q", name, until, got, want)
	}
	if until > 0 {
		checkGet(t, c, name, until-1, four.Addr(7))
	}
	checkGet(t, c, goes, 0)
}

// P20.2: one has the least tick, wherever it stands, and whatever the new one's is.
func TestWhichGoes(t *testing.T) {
	for i := range 64 {
		for _, until := range []int64{0, 1, 4, 5, 6, 10, last} {
			for _, name := range []domain.Name{"a", "z", "n1031x"} {
				list := ticks(64, 10)
				list[i] = 5
				checkGoes(t, filled(t, list...), name, until, numbered(i))
			}
		}
	}
	// Ticks that rise, that fall, and at the bounds.
	rising, falling := ticks(64, 0), ticks(64, 0)
	for i := range rising {
		rising[i], falling[i] = int64(i), last-int64(i)
	}
	checkGoes(t, filled(t, rising...), "z", 0, numbered(0))
	checkGoes(t, filled(t, falling...), "a", 0, numbered(63))
	c := filled(t, falling...)
	for i := range 64 {
		checkGoes(t, c, domain.Name("z"+strconv.Itoa(1000+i)), last, numbered(63-i))
	}
}

// P20.2: several have the least tick: the least name goes, by its bytes.
func TestWhichOfSeveralGoes(t *testing.T) {
	for _, until := range []int64{0, 9, 10, 11} {
		checkGoes(t, filled(t, ticks(64, 10)...), "a", until, numbered(0))
		checkGoes(t, filled(t, ticks(64, 10)...), "z", until, numbered(0))
		for i := range 63 {
			list := ticks(64, 10)
			list[i], list[63] = 5, 5
			checkGoes(t, filled(t, list...), "z", until, numbered(i))
		}
	}
	c := filled(t, ticks(60, 10)...)
	for _, name := range []domain.Name{"b.a", "b", "b-a", "B"} {
		put(t, c, name, 5, four.Addr(1))
	}
	for i, goes := range []domain.Name{"B", "b", "b-a", "b.a", "n1000", "n1001"} {
		checkGoes(t, c, domain.Name("z"+strconv.Itoa(i)), 20, goes)
	}
	// One that was put with the least tick is the next to go.
	checkGoes(t, c, "y", 3, "n1002")
	checkGoes(t, c, "x", 3, "y")
	checkGoes(t, c, "w", 4, "x")
	checkGoes(t, c, "v", 4, "w")
}

// P20.2: a name that is there makes none go, be the cache full or not; its new tick counts.
func TestPutAgainWhenFull(t *testing.T) {
	c := filled(t, ticks(64, 10)...)
	before := c.Names()
	for i := range 64 {
		put(t, c, numbered(i), 20, six.Addr{Lo: uint64(i)})
		put(t, c, numbered(i), int64(100-i), four.Addr(i))
		if got := c.Names(); !slices.Equal(got, before) {
			t.Fatalf("behind %q the names are %q", numbered(i), got)
		}
	}
	checkGoes(t, c, "a", 1000, numbered(63))
	put(t, c, numbered(62), 1000, four.Addr(1))
	checkGoes(t, c, "b", 1000, numbered(61))
	put(t, c, numbered(3), 0, four.Addr(1))
	checkGoes(t, c, "c", 1000, numbered(3))
	put(t, c, numbered(3), 1000, four.Addr(1)) // it is a name more again
	checkGet(t, c, numbered(60), 0)
	checkGet(t, c, numbered(3), 0, four.Addr(1))
}

// P20.2: none, some, all of them, and again at the same tick.
func TestSweep(t *testing.T) {
	c, good := cache.New(), map[domain.Name]int64{"a": 0, "b": 5, "c": 5, "d": 6, "e": 7, "f": last, "g": last - 1}
	for name, until := range good {
		put(t, c, name, until, four.Addr(until))
	}
	for _, s := range []struct {
		now   int64
		goes  int
		names string
	}{
		{0, 1, "b c d e f g"}, {0, 0, "b c d e f g"}, {4, 0, "b c d e f g"}, {5, 2, "d e f g"}, {5, 0, "d e f g"}, {3, 0, "d e f g"}, {100, 2, "f g"}, {last - 2, 0, "f g"}, {last - 1, 1, "f"}, {last, 1, ""}, {last, 0, ""}, {0, 0, ""},
	} {
		if got := c.Sweep(s.now); got != s.goes {
			t.Errorf("Sweep(%d) = %d, want %d", s.now, got, s.goes)
		}
		checkNames(t, c, s.names)
		for _, name := range c.Names() {
			checkGet(t, c, name, s.now, four.Addr(good[name]))
		}
	}
	c = filled(t, ticks(64, 5)...)
	if n := c.Sweep(4); n != 0 || c.Len() != 64 {
		t.Errorf("Sweep(4) = %d, and there are %d", n, c.Len())
	}
	if n := c.Sweep(5); n != 64 || c.Len() != 0 {
		t.Errorf("Sweep(5) = %d, and there are %d", n, c.Len())
	}
	put(t, c, "a", 5, four.Addr(1)) // as if it had never been there
	checkGet(t, c, "a", 4, four.Addr(1))
	checkNames(t, c, "a")
}

// P20.1: names by their bytes, also such as aren't good any more, and any text.
func TestNames(t *testing.T) {
	c := cache.New()
	for i, name := range []string{"b", "a.b", "a-b", "a", "aa", "a.", "B", "\xFF", "", "\u00E9", "~", "0", "10", "9", "a!", "xn--a", "a b"} {
		put(t, c, domain.Name(name), int64(i%3), four.Addr(i))
	}
	want := []domain.Name{"", "0", "10", "9", "B", "a", "a b", "a!", "a-b", "a.", "a.b", "aa", "b", "xn--a", "~", "\u00E9", "\xFF"}
	for range 20 {
		if got := c.Names(); !slices.Equal(got, want) || c.Len() != len(want) {
			t.Fatalf("Names = %q, want %q", got, want)
		}
		for _, name := range want {
			c.Get(name, last)
		}
	}
}

// P20.1: a clone and what it was made of go on by themselves.
func TestClone(t *testing.T) {
	x, y := four.Addr(1), six.Addr{Lo: 1}
	for _, turned := range []bool{false, true} {
		c := cache.New()
		put(t, c, "a", 5, x)
		put(t, c, "b", 6, x, y)
		d := c.Clone()
		if turned {
			c, d = d, c
		}
		checkNames(t, d, "a b")
		put(t, c, "c", 9, y)
		put(t, c, "a", 9, y)
		checkNames(t, c, "a b c")
		checkNames(t, d, "a b")
		checkGet(t, d, "a", 4, x)
		checkGet(t, d, "a", 5)
		checkGet(t, d, "c", 4)
		if n := c.Sweep(8); n != 1 || d.Sweep(4) != 0 {
			t.Errorf("%d are swept", n)
		}
		checkNames(t, c, "a c")
		checkNames(t, d, "a b")
		checkGet(t, d, "b", 5, x, y)
		if n := d.Sweep(5); n != 1 {
			t.Errorf("%d are swept", n)
		}
		checkNames(t, c, "a c")
		checkNames(t, d, "b")
		checkGet(t, c, "a", 8, y)
	}
	full := filled(t, ticks(64, 5)...)
	twin := full.Clone()
	checkGoes(t, twin, "z", 9, numbered(0))
	checkGet(t, full, numbered(0), 4, four.Addr(0))
	checkGoes(t, full, "y", 9, numbered(0))
	checkGet(t, twin, "y", 4)
	empty := cache.New().Clone()
	if empty == nil {
		t.Fatal("the clone of a cache of no names is nil")
	}
	put(t, empty, "a", 5, x)
	checkNames(t, empty, "a")
}

// Memory: what was handed in, and what was handed out, is written into afterwards.
func TestNothingIsShared(t *testing.T) {
	x, y := four.Addr(1), six.Addr{Lo: 1}
	room := []addr.Addr{x, y, nil, x, y}
	c := cache.New()
	put(t, c, "a", 5, room[:3]...)
	put(t, c, "b", 5, room[:3]...)
	d := c.Clone()
	if !slices.Equal(room, []addr.Addr{x, y, nil, x, y}) {
		t.Errorf("what was handed in is %q now", addr.Texts(room...))
	}
	room[0], room[1], room[2] = nil, nil, y
	checkGet(t, c, "a", 4, x, y, nil)
	for _, from := range []*cache.Cache{c, d} {
		for range 2 {
			got, _ := from.Get("a", 4)
			other, _ := from.Get("a", 4)
			got[0], got[2] = y, y
			_ = append(got, y)
			if !slices.Equal(other, []addr.Addr{x, y, nil}) {
				t.Errorf("two answers are one: %q", addr.Texts(other...))
			}
			names := from.Names()
			others := from.Names()
			names[0], names[1] = "z", "y"
			if !slices.Equal(others, []domain.Name{"a", "b"}) {
				t.Errorf("two answers are one: %q", others)
			}
		}
		checkNames(t, from, "a b")
		checkGet(t, from, "a", 4, x, y, nil)
		checkGet(t, from, "b", 4, x, y, nil)
	}
	checkGet(t, c, "a", 4, x, y, nil)
	checkGet(t, d, "a", 4, x, y, nil)
}

// P20.1, P20.2: of nil nothing, false; its clone is nil.
func TestNil(t *testing.T) {
	var c *cache.Cache
	for range 2 {
		if c.Clone() != nil || c.Len() != 0 || len(c.Names()) != 0 || c.Sweep(last) != 0 || c.Sweep(0) != 0 {
			t.Error("nil has something")
		}
		if c.Put("a", 5, four.Addr(1)) || c.Put("a", 5) || c.Put("", last, nil, nil) {
			t.Error("something is put into nil")
		}
		checkGet(t, c, "a", 0)
		checkGet(t, c, "", last)
	}
}

// P20.1, P20.2, P20.3: many calls, of a cache and its clones, against models.
func TestAgainstAModel(t *testing.T) {
	type pair struct {
		c *cache.Cache
		m model
	}
	next := chance()
	pairs := []pair{{cache.New(), nil}}
	full, puts := 0, 0
	for i := range 40000 {
		p := &pairs[next(len(pairs))]
		tick := int64(next(1 + next(40)))
		name := domain.Name(strconv.Itoa(next(90)))
		switch next(60) {
		case 0:
			if got, want := p.c.Sweep(tick/4), p.m.sweep(tick/4); got != want {
				t.Fatalf("%d: Sweep(%d) = %d, want %d", i, tick/4, got, want)
			}
		case 1:
			twin := pair{p.c.Clone(), slices.Clone(p.m)}
			if len(pairs) < 4 {
				pairs = append(pairs, twin)
			} else {
				pairs[next(4)] = twin
			}
		case 2, 3, 4, 5, 6, 7, 8, 9:
			now := int64(next(40))
			if at := p.m.find(name); at >= 0 && now < p.m[at].until {
				checkGet(t, p.c, name, now, p.m[at].addrs...)
			} else {
				checkGet(t, p.c, name, now)
			}
		default:
			var l []addr.Addr
			for range next(4) {
				l = append(l, []addr.Addr{nil, four.Addr(i), six.Addr{Lo: uint64(i)}}[next(3)])
			}
			if got, want := p.c.Put(name, tick, l...), p.m.put(name, tick, l...); got != want {
				t.Fatalf("%d: Put(%q, %d) = %v, want %v", i, name, tick, got, want)
			}
			puts++
		}
		if i%7 == 0 {
			check(t, p.c, p.m)
		}
		if p.c.Len() == 64 {
			full++
		}
	}
	for _, p := range pairs {
		check(t, p.c, p.m)
	}
	if full < 5000 || puts < 20000 {
		t.Errorf("a cache is full but %d times, and put to %d times", full, puts)
	}
}

// What the chapter's example says.
func TestExample(t *testing.T) {
	c, x := cache.New(), six.Addr{Lo: 1}
	put(t, c, "a", 5, x)
	checkGet(t, c, "a", 4, x)
	checkGet(t, c, "a", 5)
}
