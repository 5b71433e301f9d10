package answers_test

import (
	"math"
	"slices"
	"strconv"
	"strings"
	"testing"

	"mantrap/addr"
	"mantrap/answers"
	"mantrap/api"
	"mantrap/cache"
	"mantrap/domain"
	"mantrap/four"
	"mantrap/six"
)

const (
	last    = int64(1) << 59 // the greatest tick of which something is promised
	longest = int64(1) << 31 // for how many ticks an answer is good at most
)

var (
	x = four.Of(8, 8, 8, 8)
	y = six.Addr{Hi: 0x2606_4700 << 32, Lo: 1}
	z = four.Of(127, 0, 0, 1)
)

// chance tells a source of numbers that look like chance, the same ones at each run.
func chance() func(below int) int {
	state := uint64(1)
	return func(below int) int {
		state = state*6364136223846793005 + 1442695040888963407
		return int((state >> 33) % uint64(below))
	}
}

// good tells an answer of some addresses that doesn't fail.
func good(ttl int64, l ...addr.Addr) answers.Answer {
	return answers.Answer{TTL: ttl, Addrs: l}
}

// fails tells an answer that does, whatever addresses it has.
func fails(ttl int64, l ...addr.Addr) answers.Answer {
	return answers.Answer{Fail: true, TTL: ttl, Addrs: l}
}

// many tells so many addresses of both sorts, each another one.
func many(n int) []addr.Addr {
	list := make([]addr.Addr, n)
	for i := range list {
		list[i] = four.Addr(1000 + i)
		if i%3 == 1 {
			list[i] = six.Addr{Hi: uint64(i), Lo: uint64(1000 + i)}
		}
	}
	return list
}

// numbered tells a name whose place among the others is that of its number.
func numbered(i int) domain.Name {
	return domain.Name("n" + strconv.Itoa(1000+i))
}

// checkAsk holds Ask against what is wanted.
func checkAsk(t *testing.T, r *answers.Resolver, name domain.Name, now int64, e api.Errno, want ...addr.Addr) {
	t.Helper()
	if got, of := r.Ask(name, now); of != e || !slices.Equal(got, want) {
		t.Errorf("Ask(%q, %d) = %q, %d, want %q, %d", name, now, addr.Texts(got...), of, addr.Texts(want...), e)
	}
}

// checkResolve holds Resolve against what is wanted.
func checkResolve(t *testing.T, r *answers.Resolver, name domain.Name, now int64, cached bool, e api.Errno, want ...addr.Addr) {
	t.Helper()
	if got, was, of := r.Resolve(name, now); of != e || was != cached || !slices.Equal(got, want) {
		t.Errorf("Resolve(%q, %d) = %q, %v, %d, want %q, %v, %d", name, now, addr.Texts(got...), was, of, addr.Texts(want...), cached, e)
	}
}

// checkGet holds what the cache tells by the resolver against what is wanted; none, where that is nothing.
func checkGet(t *testing.T, r *answers.Resolver, name domain.Name, now int64, want ...addr.Addr) {
	t.Helper()
	if got, ok := r.Get(name, now); !slices.Equal(got, want) || ok != (len(want) > 0) {
		t.Errorf("Get(%q, %d) = %q, %v, want %q", name, now, addr.Texts(got...), ok, addr.Texts(want...))
	}
}

// checkState holds Left, and the cache's Names and Len by the resolver, against what is wanted; names with blanks between.
func checkState(t *testing.T, r *answers.Resolver, left int, names string) {
	t.Helper()
	var list []domain.Name
	for _, word := range strings.Fields(names) {
		list = append(list, domain.Name(word))
	}
	if got := r.Left(); got != left {
		t.Errorf("Left = %d, want %d", got, left)
	}
	if got := r.Names(); !slices.Equal(got, list) || r.Len() != len(list) {
		t.Errorf("Names = %q, Len = %d, want %q", got, r.Len(), list)
	}
}

// P21.1: scripts of no answers, of one, of many; no name is in the cache.
func TestNew(t *testing.T) {
	for _, n := range []int{0, 1, 2, 16, 17, 64, 65, 1000} {
		script := slices.Repeat([]answers.Answer{good(5, x)}, n)
		r := answers.New(script...)
		if r == nil {
			t.Fatalf("New of %d answers is nil", n)
		}
		checkState(t, r, n, "")
		checkGet(t, r, "a", 0)
		checkGet(t, r, "", last)
	}
	checkState(t, answers.New(), 0, "")
	checkState(t, answers.New([]answers.Answer{}...), 0, "")
	checkState(t, answers.New(answers.Answer{}), 1, "")
	// Two of them, of one script, go on by themselves.
	script := []answers.Answer{good(5, x), good(5, y)}
	r, s := answers.New(script...), answers.New(script...)
	checkAsk(t, r, "a", 0, api.OK, x)
	checkState(t, r, 1, "a")
	checkState(t, s, 2, "")
	checkAsk(t, s, "b", 0, api.OK, x)
	checkState(t, r, 1, "a")
}

// P21.1: ahead of the first question, behind each one, whatever it answers, and at the script's end.
func TestLeft(t *testing.T) {
	script := []answers.Answer{good(5, x), good(0, y), fails(5, x), good(5), good(5, many(17)...), good(-1, x), {}, good(5, x, y)}
	wanted := []api.Errno{api.OK, api.OK, api.ErrResolve, api.ErrEmpty, api.ErrMany, api.OK, api.ErrEmpty, api.OK}
	asked, resolved := answers.New(script...), answers.New(script...)
	for i, e := range wanted {
		name := numbered(i)
		for range 2 {
			if asked.Left() != len(script)-i || resolved.Left() != len(script)-i {
				t.Fatalf("behind %d answers %d and %d are left", i, asked.Left(), resolved.Left())
			}
		}
		var want []addr.Addr
		if e == api.OK {
			want = script[i].Addrs
		}
		checkAsk(t, asked, name, 0, e, want...)
		checkResolve(t, resolved, name, 0, false, e, want...)
	}
	for range 3 {
		if asked.Left() != 0 || resolved.Left() != 0 {
			t.Errorf("at the end %d and %d are left", asked.Left(), resolved.Left())
		}
		checkAsk(t, asked, "z", 0, api.ErrResolve)
		checkResolve(t, resolved, "z", 0, false, api.ErrResolve)
	}
}

// P21.2: answers in the script's order, whatever is asked; at its end an error, once and again.
func TestAsk(t *testing.T) {
	r := answers.New(good(0, x), good(5, y, x), good(5, x, x), good(5, z))
	checkAsk(t, r, "a", 7, api.OK, x)
	checkAsk(t, r, "b", 0, api.OK, y, x)
	checkAsk(t, r, "c", last, api.OK, x, x)
	checkAsk(t, r, "a", 3, api.OK, z)
	for i := range 5 {
		checkAsk(t, r, "a", int64(i), api.ErrResolve)
		checkAsk(t, r, "b", 0, api.ErrResolve)
		checkAsk(t, r, "z", last, api.ErrResolve)
		checkResolve(t, r, "z", int64(i), false, api.ErrResolve)
		checkState(t, r, 0, "a b c")
	}
}

// P21.2: at its end the script tells an error of a name, but the cache still tells what it has of it.
func TestEnd(t *testing.T) {
	empty := answers.New()
	for i := range 3 {
		checkAsk(t, empty, "a", int64(i), api.ErrResolve)
		checkResolve(t, empty, "a", int64(i), false, api.ErrResolve)
		checkState(t, empty, 0, "")
	}
	r := answers.New(good(5, x, y))
	checkAsk(t, r, "a", 10, api.OK, x, y)
	for range 3 {
		checkAsk(t, r, "a", 10, api.ErrResolve)
		checkResolve(t, r, "a", 14, true, api.OK, x, y)
		checkResolve(t, r, "a", 15, false, api.ErrResolve)
		checkResolve(t, r, "b", 14, false, api.ErrResolve)
		checkState(t, r, 0, "a")
	}
}

// P21.2: each error alone, and two at once; an answer that is an error is given, but nothing of it is in the cache.
func TestFaults(t *testing.T) {
	for _, c := range []struct {
		answer answers.Answer
		want   api.Errno
	}{
		{fails(5, x), api.ErrResolve}, {fails(5, x, y), api.ErrResolve}, {fails(longest, many(16)...), api.ErrResolve}, {fails(0, x), api.ErrResolve}, {fails(-1, x), api.ErrResolve},
		{good(5), api.ErrEmpty}, {good(0), api.ErrEmpty}, {good(-5), api.ErrEmpty}, {answers.Answer{TTL: 5, Addrs: []addr.Addr{}}, api.ErrEmpty}, {answers.Answer{TTL: 5, Addrs: many(5)[:0]}, api.ErrEmpty}, {answers.Answer{}, api.ErrEmpty},
		{good(5, many(17)...), api.ErrMany}, {good(0, many(17)...), api.ErrMany}, {good(5, many(18)...), api.ErrMany}, {good(5, many(1000)...), api.ErrMany}, {good(5, slices.Repeat([]addr.Addr{x}, 17)...), api.ErrMany},
		{fails(5), api.ErrResolve}, {fails(0), api.ErrResolve}, {fails(5, many(17)...), api.ErrResolve}, {fails(0, many(1000)...), api.ErrResolve},
	} {
		for _, resolve := range []bool{false, true} {
			r := answers.New(good(9, z), c.answer, c.answer, good(9, y))
			checkAsk(t, r, "b", 0, api.OK, z)
			for i, name := range []domain.Name{"a", "b"} {
				if resolve {
					checkResolve(t, r, name, 9, false, c.want)
				} else {
					checkAsk(t, r, name, 0, c.want)
				}
				checkState(t, r, 2-i, "b")
				checkGet(t, r, "a", 0)
				checkGet(t, r, "b", 8, z)
				checkGet(t, r, "b", 9)
			}
			checkResolve(t, r, "a", 0, false, api.OK, y)
			checkState(t, r, 0, "a b")
		}
	}
}

// P21.2: one to 16 addresses, in their order, also such as stand there twice.
func TestManyAddresses(t *testing.T) {
	for n := 1; n <= 40; n++ {
		l, e := many(n), api.OK
		if n > 16 {
			l, e = nil, api.ErrMany
		}
		r := answers.New(good(5, many(n)...), good(5, many(n)...))
		checkAsk(t, r, "a", 0, e, l...)
		checkGet(t, r, "a", 4, l...)
		checkResolve(t, r, "b", 0, false, e, l...)
		checkGet(t, r, "b", 4, l...)
	}
	for _, l := range [][]addr.Addr{{x, x}, {y, x, y}, slices.Repeat([]addr.Addr{y}, 16), {four.Addr(0), six.Addr{}, four.Addr(math.MaxUint32), six.Addr{Lo: 0xFFFF_FFFF_FFFF}}} {
		r := answers.New(good(5, l...))
		checkResolve(t, r, "a", 0, false, api.OK, l...)
		checkResolve(t, r, "a", 4, true, api.OK, l...)
	}
}

// P21.2: of each TTL: until when the addresses are good, and that they aren't kept, where it isn't above 0.
func TestTTL(t *testing.T) {
	for ttl, ticks := range map[int64]int64{
		math.MinInt64: 0, -longest: 0, -2: 0, -1: 0, 0: 0, 1: 1, 2: 2, 5: 5, 1000: 1000,
		longest - 1: longest - 1, longest: longest, longest + 1: longest, longest + 2: longest, 2 * longest: longest, 1<<32 + 1: longest, last: longest, 1 << 60: longest, math.MaxInt64 - 1: longest, math.MaxInt64: longest,
	} {
		for _, now := range []int64{0, 1, 2, 1000, longest - 1, longest, longest + 1, last - 1, last} {
			for _, resolve := range []bool{false, true} {
				r := answers.New(good(ttl, x, y), good(0, z))
				if resolve {
					checkResolve(t, r, "a", now, false, api.OK, x, y)
				} else {
					checkAsk(t, r, "a", now, api.OK, x, y)
				}
				if ticks == 0 {
					checkState(t, r, 1, "")
					checkGet(t, r, "a", 0)
					checkResolve(t, r, "a", now, false, api.OK, z)
					continue
				}
				checkState(t, r, 1, "a")
				for _, then := range []int64{0, now, now + ticks - 1} {
					checkGet(t, r, "a", then, x, y)
					if then <= last {
						checkResolve(t, r, "a", then, true, api.OK, x, y)
					}
				}
				for _, then := range []int64{now + ticks, now + ticks + 1, 1 << 60} {
					checkGet(t, r, "a", then)
				}
				if until := now + ticks; until <= last {
					checkResolve(t, r, "a", until, false, api.OK, z)
				}
			}
		}
	}
}

// P21.2, P21.3: ahead of the tick until which a name is good, at it, behind it, and again with another answer.
func TestResolve(t *testing.T) {
	r := answers.New(good(5, x), good(1, y, z), good(3, z), fails(1), good(2, y), good(0, x), good(7, x))
	checkResolve(t, r, "a", 10, false, api.OK, x)
	for _, now := range []int64{10, 11, 14, 0, 9, 14} {
		checkResolve(t, r, "a", now, true, api.OK, x)
		checkState(t, r, 6, "a")
	}
	checkResolve(t, r, "a", 15, false, api.OK, y, z)
	checkResolve(t, r, "a", 15, true, api.OK, y, z)
	checkResolve(t, r, "a", 0, true, api.OK, y, z) // what was told of it last
	checkState(t, r, 5, "a")
	checkResolve(t, r, "a", 17, false, api.OK, z)
	checkResolve(t, r, "a", 19, true, api.OK, z)
	checkResolve(t, r, "a", 20, false, api.ErrResolve)
	checkState(t, r, 3, "a") // what isn't good any more is there yet
	checkResolve(t, r, "a", 19, true, api.OK, z)
	checkResolve(t, r, "a", 20, false, api.OK, y)
	checkResolve(t, r, "a", 21, true, api.OK, y)
	checkResolve(t, r, "a", 22, false, api.OK, x)
	checkResolve(t, r, "a", 21, true, api.OK, y) // an answer that isn't put leaves what is there
	checkState(t, r, 1, "a")
	checkResolve(t, r, "a", last, false, api.OK, x)
	checkResolve(t, r, "a", last, true, api.OK, x)
	checkGet(t, r, "a", last+6, x)
	checkGet(t, r, "a", last+7)
	checkState(t, r, 0, "a")
}

// P21.2: names that are others, be they alike.
func TestNames(t *testing.T) {
	list := []domain.Name{"a", "A", "a.", "b", "a.b", "", "\xFF", "\x00", "a b", domain.Name(strings.Repeat("a", 5000))}
	var script []answers.Answer
	for i := range list {
		script = append(script, good(5, four.Addr(i)))
	}
	r := answers.New(script...)
	for i, name := range list {
		checkResolve(t, r, name, 0, false, api.OK, four.Addr(i))
	}
	for i, name := range list {
		checkResolve(t, r, name, 4, true, api.OK, four.Addr(i))
	}
	sorted := slices.Sorted(slices.Values(list))
	if got := r.Names(); !slices.Equal(got, sorted) || r.Len() != len(list) || r.Left() != 0 {
		t.Errorf("Names = %q, Len = %d, Left = %d", got, r.Len(), r.Left())
	}
}

// P21.2: Ask of a name that the cache has: the script's next answer, which is told of the name from now on.
func TestAskOfWhatIsKnown(t *testing.T) {
	r := answers.New(good(9, x), good(2, y), good(0, z), good(-1, z), fails(9, z), good(9), good(9, many(17)...), good(100, z, x))
	checkAsk(t, r, "a", 0, api.OK, x)
	checkAsk(t, r, "a", 0, api.OK, y)
	checkState(t, r, 6, "a")
	for i, e := range []api.Errno{api.OK, api.OK, api.ErrResolve, api.ErrEmpty, api.ErrMany} {
		var want []addr.Addr
		if e == api.OK {
			want = []addr.Addr{z}
		}
		checkAsk(t, r, "a", 1, e, want...)
		checkState(t, r, 5-i, "a")
		checkResolve(t, r, "a", 1, true, api.OK, y)
		checkGet(t, r, "a", 2)
	}
	checkAsk(t, r, "a", 50, api.OK, z, x)
	checkResolve(t, r, "a", 149, true, api.OK, z, x)
	checkResolve(t, r, "a", 0, true, api.OK, z, x)
	checkResolve(t, r, "a", 150, false, api.ErrResolve)
}

// P21.3: as long as a name is good the script isn't asked, by whatever tick; nor do the names of others count.
func TestScriptIsntAsked(t *testing.T) {
	r := answers.New(good(1000, x), good(1000, y), fails(0), fails(0))
	checkResolve(t, r, "a", 0, false, api.OK, x)
	checkResolve(t, r, "b", 0, false, api.OK, y)
	for now := range int64(1000) {
		checkResolve(t, r, "a", now, true, api.OK, x)
		checkResolve(t, r, "b", 999-now, true, api.OK, y)
		if r.Left() != 2 {
			t.Fatalf("at %d the script is asked", now)
		}
	}
	checkResolve(t, r, "a", 1000, false, api.ErrResolve)
	checkResolve(t, r, "b", 1000, false, api.ErrResolve)
	checkState(t, r, 0, "a b")
}

// P21.2: 64 names and one more: the one whose tick is the least goes, and is asked anew.
func TestFull(t *testing.T) {
	var script []answers.Answer
	for i := range 64 {
		script = append(script, good(int64(1000-i), four.Addr(i)))
	}
	script = append(script, good(2, x), good(5000, y), good(3, z), good(0, x), fails(1), good(4, x))
	r := answers.New(script...)
	for i := range 64 {
		checkResolve(t, r, numbered(i), 0, false, api.OK, four.Addr(i))
	}
	for i := range 64 {
		checkResolve(t, r, numbered(i), 0, true, api.OK, four.Addr(i))
	}
	if r.Len() != 64 || r.Left() != 6 {
		t.Fatalf("Len = %d, Left = %d", r.Len(), r.Left())
	}
	checkResolve(t, r, "z", 0, false, api.OK, x) // number 63 makes room
	checkGet(t, r, numbered(63), 0)
	checkResolve(t, r, "z", 1, true, api.OK, x)
	checkResolve(t, r, numbered(63), 0, false, api.OK, y) // and so does z, now
	checkGet(t, r, "z", 0)
	checkResolve(t, r, numbered(63), 4999, true, api.OK, y)
	checkAsk(t, r, numbered(63), 0, api.OK, z) // one that is there makes no other one go
	for i := range 63 {
		checkResolve(t, r, numbered(i), 0, true, api.OK, four.Addr(i))
	}
	checkAsk(t, r, "y", 0, api.OK, x) // nor do those that aren't put
	checkAsk(t, r, "y", 0, api.ErrResolve)
	checkResolve(t, r, numbered(63), 2, true, api.OK, z)
	checkAsk(t, r, "y", 2, api.OK, x)
	checkGet(t, r, numbered(63), 2)
	checkGet(t, r, "y", 5, x)
	if r.Len() != 64 || r.Left() != 0 {
		t.Errorf("Len = %d, Left = %d", r.Len(), r.Left())
	}
}

// What a resolver doesn't answer itself its cache does.
func TestCacheOfResolver(t *testing.T) {
	r := answers.New(good(5, x), good(6, y), good(0, z))
	for i, name := range []domain.Name{"b", "a", "c"} {
		checkState(t, r, 3-i, []string{"", "b", "a b"}[i])
		r.Resolve(name, 0)
	}
	checkState(t, r, 0, "a b")
	if !slices.Equal(r.Cache.Names(), r.Names()) || r.Cache.Len() != r.Len() || r.Len() != 2 {
		t.Errorf("the cache has %q, the resolver %q", r.Cache.Names(), r.Names())
	}
	checkGet(t, r, "b", 4, x)
	checkGet(t, r, "b", 5)
	checkGet(t, r, "a", 5, y)
	checkGet(t, r, "c", 0)
	var alone *cache.Cache = r.Cache.Clone()
	if n := alone.Sweep(5); n != 1 {
		t.Errorf("%d are swept", n)
	}
	checkState(t, r, 0, "a b")
}

// P21.1: a clone and what it was made of go on by themselves.
func TestClone(t *testing.T) {
	for _, turned := range []bool{false, true} {
		r := answers.New(good(5, x), good(5, y), good(9, z), fails(0))
		checkResolve(t, r, "a", 0, false, api.OK, x)
		s := r.Clone()
		if turned {
			r, s = s, r
		}
		checkState(t, s, 3, "a")
		checkResolve(t, r, "b", 0, false, api.OK, y)
		checkAsk(t, r, "a", 0, api.OK, z)
		checkAsk(t, r, "c", 0, api.ErrResolve)
		checkState(t, r, 0, "a b")
		checkState(t, s, 3, "a")
		checkResolve(t, s, "a", 4, true, api.OK, x)
		checkGet(t, s, "a", 5)
		checkGet(t, s, "b", 0)
		checkResolve(t, s, "c", 0, false, api.OK, y) // the same answers, for another name
		checkResolve(t, s, "a", 5, false, api.OK, z)
		checkState(t, s, 1, "a c")
		checkState(t, r, 0, "a b")
		checkResolve(t, r, "a", 8, true, api.OK, z)
		checkResolve(t, r, "c", 0, false, api.ErrResolve)
		end := r.Clone()
		checkState(t, end, 0, "a b")
		checkAsk(t, end, "a", 0, api.ErrResolve)
		checkResolve(t, end, "b", 4, true, api.OK, y)
		checkAsk(t, s, "a", 0, api.ErrResolve)
	}
	untold := answers.New(good(5, x))
	twin := untold.Clone()
	checkAsk(t, untold, "a", 0, api.OK, x)
	checkState(t, twin, 1, "")
	checkAsk(t, twin, "b", 0, api.OK, x)
	checkState(t, untold, 0, "a")
	checkState(t, answers.New().Clone(), 0, "")
}

// Memory: what was handed in is written into afterwards, and wasn't changed.
func TestNothingIsKept(t *testing.T) {
	room := []addr.Addr{x, y, z, z, z}
	script := []answers.Answer{good(5, room[:2]...), good(5, room[:3]...), fails(5, z), good(5, z)}
	r := answers.New(script[:2]...)
	s := r.Clone()
	checkAsk(t, r, "a", 0, api.OK, x, y)
	if !slices.Equal(room, []addr.Addr{x, y, z, z, z}) || len(script[0].Addrs) != 2 || !script[2].Fail || script[0].TTL != 5 || len(script[3].Addrs) != 1 {
		t.Errorf("what was handed in is %q, %+v now", addr.Texts(room...), script)
	}
	room[0], room[1], room[2] = z, nil, nil
	script[0], script[1] = fails(0), good(0, z)
	checkGet(t, r, "a", 4, x, y)
	checkAsk(t, r, "b", 0, api.OK, x, y, z)
	checkGet(t, r, "b", 4, x, y, z)
	checkState(t, r, 0, "a b")
	checkAsk(t, s, "a", 0, api.OK, x, y)
	checkAsk(t, s, "b", 0, api.OK, x, y, z)
}

// Memory: what was handed out is written into, of a resolver and its clone, asked for the same answers.
func TestNothingIsShared(t *testing.T) {
	l := []addr.Addr{x, y}
	r := answers.New(good(5, l...), good(5, l...), good(5, l...))
	s := r.Clone()
	spoil := func(l []addr.Addr) {
		l[0], l[1] = z, nil
		l = append(l, z)
		clear(l[:cap(l)])
	}
	for range 3 {
		for _, one := range []*answers.Resolver{r, s, r.Clone(), s.Clone()} {
			first, e := one.Ask("a", 0)
			if e != api.OK || !slices.Equal(first, l) {
				t.Errorf("Ask = %q, %d", addr.Texts(first...), e)
			}
			spoil(first)
			for range 2 {
				known, cached, _ := one.Resolve("a", 4)
				if !cached || !slices.Equal(known, l) {
					t.Errorf("Resolve = %q, %v", addr.Texts(known...), cached)
				}
				spoil(known)
				known, _ = one.Get("a", 4)
				spoil(known)
			}
		}
	}
	two := answers.New(good(5, l...), good(5, l...))
	told, cached, _ := two.Resolve("a", 0)
	twin := two.Clone()
	if cached {
		t.Error("the first one is the cache's")
	}
	spoil(told)
	checkResolve(t, two, "a", 4, true, api.OK, l...)
	checkResolve(t, twin, "a", 4, true, api.OK, l...)
	checkResolve(t, two, "b", 0, false, api.OK, l...)
	if !slices.Equal(l, []addr.Addr{x, y}) {
		t.Errorf("what was handed in is %q now", addr.Texts(l...))
	}
}

// P21.1, P21.2: of nil none, false, ErrNil; 0; its clone is nil.
func TestNil(t *testing.T) {
	var r *answers.Resolver
	for range 2 {
		if r.Clone() != nil || r.Left() != 0 {
			t.Error("nil has something")
		}
		for _, now := range []int64{0, 1, last} {
			for _, name := range []domain.Name{"", "a"} {
				checkAsk(t, r, name, now, api.ErrNil)
				checkResolve(t, r, name, now, false, api.ErrNil)
			}
		}
	}
}

// line is what a model knows of one name.
type line struct {
	until int64
	addrs []addr.Addr
}

// model is what a resolver has to be, without a cache that would be full.
type model struct {
	script []answers.Answer
	given  int
	known  map[domain.Name]line
}

func (m *model) ask(name domain.Name, now int64) ([]addr.Addr, api.Errno) {
	if m.given == len(m.script) {
		return nil, api.ErrResolve
	}
	a := m.script[m.given]
	m.given++
	if a.Fail {
		return nil, api.ErrResolve
	}
	if len(a.Addrs) == 0 {
		return nil, api.ErrEmpty
	}
	if len(a.Addrs) > 16 {
		return nil, api.ErrMany
	}
	if a.TTL > longest {
		m.known[name] = line{now + longest, a.Addrs}
	} else if a.TTL > 0 {
		m.known[name] = line{now + a.TTL, a.Addrs}
	}
	return a.Addrs, api.OK
}

func (m *model) resolve(name domain.Name, now int64) ([]addr.Addr, bool, api.Errno) {
	if l, ok := m.known[name]; ok && now < l.until {
		return l.addrs, true, api.OK
	}
	l, e := m.ask(name, now)
	return l, false, e
}

// by tells an answer by chance, most of them such as may be.
func by(next func(int) int) answers.Answer {
	a := answers.Answer{Fail: next(8) == 0, TTL: int64(next(12) - 2), Addrs: many(next(5))}
	if next(20) == 0 {
		a.Addrs = many(15 + next(4))
	}
	if next(20) == 0 {
		a.TTL = []int64{longest - 1, longest, longest + 1, math.MaxInt64, math.MinInt64}[next(5)]
	}
	return a
}

// P21.1, P21.2, P21.3: scripts by chance, asked to their end and behind it, by resolvers and clones of them, against models.
func TestAgainstAModel(t *testing.T) {
	next := chance()
	asked, cached := map[api.Errno]int{}, 0
	for range 2000 {
		script := make([]answers.Answer, next(30))
		for i := range script {
			script[i] = by(next)
		}
		r, m := answers.New(script...), &model{script: script, known: map[domain.Name]line{}}
		now := []int64{0, 1000, last - 100}[next(3)]
		for range 60 {
			now += int64(next(3))
			name := numbered(next(6))
			switch next(5) {
			case 0:
				want, e := m.ask(name, now)
				checkAsk(t, r, name, now, e, want...)
				asked[e]++
			case 1:
				r = r.Clone()
			default:
				want, was, e := m.resolve(name, now)
				checkResolve(t, r, name, now, was, e, want...)
				if was {
					cached++
				}
			}
			if r.Left() != len(script)-m.given || r.Len() != len(m.known) {
				t.Fatalf("Left = %d, Len = %d, want %d, %d", r.Left(), r.Len(), len(script)-m.given, len(m.known))
			}
		}
	}
	for _, e := range []api.Errno{api.OK, api.ErrResolve, api.ErrEmpty, api.ErrMany} {
		if asked[e] < 100 {
			t.Errorf("but %d answers are %d", asked[e], e)
		}
	}
	if cached < 5000 {
		t.Errorf("but %d are of the cache", cached)
	}
}

// P1: no call panics, and each ends, also where nothing is promised of what it answers.
func TestAnything(t *testing.T) {
	for _, now := range []int64{math.MinInt64, -1, 0, last, last + 1, 1 << 60, math.MaxInt64} {
		for _, ttl := range []int64{math.MinInt64, -1, 0, 1, longest, math.MaxInt64} {
			r := answers.New(good(ttl, nil, x), fails(ttl, nil), good(ttl, nil))
			for range 5 {
				r.Ask("a", now)
				r.Resolve("a", now)
				r = r.Clone()
			}
			if r.Left() != 0 {
				t.Errorf("%d answers are left", r.Left())
			}
		}
	}
}

// What the chapter's example says.
func TestExample(t *testing.T) {
	r := answers.New(good(5, x))
	checkResolve(t, r, "a", 0, false, api.OK, x)
	checkResolve(t, r, "a", 4, true, api.OK, x)
	checkResolve(t, r, "a", 5, false, api.ErrResolve)
}
