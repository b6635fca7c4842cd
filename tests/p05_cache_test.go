package tests

// Promise 5: what was filled is known, if there is any room, and nothing is known that was not; what was flushed is not
// known any more, all else is.

import (
	"fmt"
	"math"
	"testing"

	"loop.example/g00530/impl"
)

func TestCacheBounds(t *testing.T) {
	if impl.MaxCache != 6 {
		t.Error(impl.MaxCache)
	}
}

func TestCacheFaultOfGoodOnes(t *testing.T) {
	for _, text := range goodCaches() {
		if code := impl.CacheFault(cache(t, text)); code != impl.OK {
			t.Errorf("%q: code %d", text, code)
		}
	}
	if code := impl.CacheFault(impl.Cache{}); code != impl.OK {
		t.Errorf("the zero value: code %d", code)
	}
}

func TestCacheFaultOfFaultyOnes(t *testing.T) {
	for _, f := range faultyCaches(t) {
		if code := impl.CacheFault(f.cache); code != f.code {
			t.Errorf("%s: code %d; want %d", f.name, code, f.code)
		}
	}
}

// The size is asked ahead of how many lines there are, these ahead of all lines, and each line all codes ahead of the next one.
func TestCacheFaultOfSeveralFaults(t *testing.T) {
	for _, f := range severalFaults(t) {
		if code := impl.CacheFault(f.cache); code != f.code {
			t.Errorf("%s: code %d; want %d", f.name, code, f.code)
		}
	}
}

// Every number around the bounds of a line, with each of the others.
func TestCacheFaultOfLines(t *testing.T) {
	for domain := int64(-2); domain <= 5; domain++ {
		for tag := int64(-2); tag <= 8; tag++ {
			for perm := int64(-2); perm <= 9; perm++ {
				want := int64(impl.ErrRange)
				if domain >= 0 && domain <= 3 && tag >= 0 && tag <= 6 && perm >= 0 && perm <= 7 {
					want = impl.OK
				}
				c := impl.Cache{Size: 1, Lines: []impl.Line{{Domain: domain, Tag: tag, Perm: perm}}}
				if code := impl.CacheFault(c); code != want {
					t.Errorf("%s: code %d; want %d", cacheTold(c), code, want)
				}
			}
		}
	}
}

// Two lines are one too many only where domain and tag are both the same, whatever their perms are.
func TestCacheFaultOfTwoLines(t *testing.T) {
	eachLine(func(a impl.Line) {
		eachLine(func(b impl.Line) {
			want := int64(impl.OK)
			if a.Domain == b.Domain && a.Tag == b.Tag {
				want = impl.ErrState
			}
			if code := impl.CacheFault(impl.Cache{Size: 2, Lines: []impl.Line{a, b}}); code != want {
				t.Fatalf("%v and %v: code %d; want %d", a, b, code, want)
			}
		})
	})
}

// As many lines as Size, one fewer and one more, at each size.
func TestCacheFaultBySize(t *testing.T) {
	lines := cache(t, "6: 000 010 020 030 040 050 060").Lines
	for size := int64(-2); size <= 9; size++ {
		for many := range len(lines) + 1 {
			want := int64(impl.OK)
			if size < 0 || size > 6 {
				want = impl.ErrRange
			} else if int64(many) > size {
				want = impl.ErrMany
			}
			if code := impl.CacheFault(impl.Cache{Size: size, Lines: lines[:many]}); code != want {
				t.Errorf("size %d, %d lines: code %d; want %d", size, many, code, want)
			}
		}
	}
}

// wantKnown asks for every domain and tag, and for what is none, that the cache knows what the lines say and nothing else.
func wantKnown(t *testing.T, what string, c impl.Cache, want plainCache) {
	t.Helper()
	for domain := int64(-2); domain <= 5; domain++ {
		for tag := int64(-2); tag <= 8; tag++ {
			got := impl.LookCache(c, domain, tag)
			perm, known := want.look(domain, tag)
			if known && got != (impl.IntResult{Value: perm}) || !known && got != (impl.IntResult{Code: impl.ErrNone}) {
				t.Errorf("%s: of domain %d and tag %d %s knows %v; want %d, %v", what, domain, tag, cacheTold(c), got, perm, known)
			}
		}
	}
}

func TestLookCacheRows(t *testing.T) {
	c := cache(t, "6: 010 117 205 062 360")
	for _, row := range []struct{ domain, tag, perm int64 }{{0, 1, 0}, {1, 1, 7}, {2, 0, 5}, {0, 6, 2}, {3, 6, 0}} {
		wantInt(t, fmt.Sprint("look for ", row), impl.LookCache(c, row.domain, row.tag), row.perm)
	}
	for _, row := range [][2]int64{{1, 0}, {0, 0}, {2, 1}, {0, 2}, {3, 0}, {-1, -1}, {-1, 1}, {0, -1}, {6, 3}} {
		wantNoInt(t, fmt.Sprint("look for ", row), impl.LookCache(c, row[0], row[1]), impl.ErrNone)
	}
}

func TestLookCacheOfAll(t *testing.T) {
	for _, text := range goodCaches() {
		c := cache(t, text)
		wantKnown(t, "as it is", c, plain(c))
		for _, far := range farNumbers() {
			for near := int64(-1); near <= 6; near++ {
				wantNoInt(t, fmt.Sprintf("domain %d and tag %d of %q", far, near, text), impl.LookCache(c, far, near), impl.ErrNone)
				wantNoInt(t, fmt.Sprintf("domain %d and tag %d of %q", near, far, text), impl.LookCache(c, near, far), impl.ErrNone)
			}
		}
	}
}

func TestFillCacheRows(t *testing.T) {
	for _, row := range []struct {
		before, line string
		pick         int64
		after        string
	}{
		{"2:", "017", 0, "2: 017"},
		{"2:", "000", 5, "2: 000"},
		{"2: 017", "115", 0, "2: 017 115"},
		{"2: 017", "115", 9, "2: 017 115"},
		// There is no room: the pick tells which one is gone, 0 the eldest.
		{"2: 017 115", "020", 0, "2: 115 020"},
		{"2: 017 115", "020", 1, "2: 017 020"},
		{"2: 017 115", "020", 2, "2: 115 020"},
		{"2: 017 115", "020", 3, "2: 017 020"},
		{"1: 017", "020", 0, "1: 020"},
		{"1: 017", "020", 999, "1: 020"},
		{"3: 010 110 210", "310", 2, "3: 010 110 310"},
		{"3: 010 110 210", "310", 3, "3: 110 210 310"},
		{"3: 010 110 210", "310", math.MaxInt64, "3: 010 210 310"},
		{"6: 000 010 020 030 040 050", "060", 0, "6: 010 020 030 040 050 060"},
		{"6: 000 010 020 030 040 050", "060", 4, "6: 000 010 020 030 050 060"},
		{"6: 000 010 020 030 040 050", "060", 6, "6: 010 020 030 040 050 060"},
		{"6: 000 010 020 030 040 050", "367", 11, "6: 000 010 020 030 040 367"},
		// A line of that domain and tag is there: it alone is gone, and the new one is the last.
		{"1: 017", "017", 0, "1: 017"},
		{"1: 017", "010", 5, "1: 010"},
		{"2: 017 115", "015", 0, "2: 115 015"},
		{"2: 017 115", "015", 1, "2: 115 015"},
		{"2: 017 115", "110", 0, "2: 017 110"},
		{"3: 017 115", "017", 1, "3: 115 017"},
		{"6: 000 010 020 030 040 050", "027", 0, "6: 000 010 030 040 050 027"},
		{"6: 000 010 020 030 040 050", "007", 3, "6: 010 020 030 040 050 007"},
		{"6: 000 010 020 030 040 050", "050", 6, "6: 000 010 020 030 040 050"},
		// There is room for none.
		{"0:", "017", 0, "0:"},
		{"0:", "000", 7, "0:"},
		{"0:", "367", math.MaxInt64, "0:"},
	} {
		what := fmt.Sprintf("fill %q with %s, pick %d", row.before, row.line, row.pick)
		wantCache(t, what, impl.FillCache(cache(t, row.before), line(t, row.line), row.pick), cache(t, row.after))
	}
}

// What was filled is known, and of all else nothing that was not: at most the one line that was picked is gone.
func TestLineThatWasFilled(t *testing.T) {
	for _, text := range goodCaches() {
		c := cache(t, text)
		eachLine(func(l impl.Line) {
			for _, pick := range somePicks() {
				what := fmt.Sprintf("fill %q with %v, pick %d", text, l, pick)
				got := impl.FillCache(c, l, pick)
				wantCache(t, what, got, plain(c).fill(l, pick).cache())
				if code := impl.CacheFault(got.Cache); code != impl.OK {
					t.Errorf("%s: the fault %d", what, code)
				}
				if c.Size > 0 {
					wantInt(t, what+" and look", impl.LookCache(got.Cache, l.Domain, l.Tag), l.Perm)
				} else {
					wantNoInt(t, what+" and look", impl.LookCache(got.Cache, l.Domain, l.Tag), impl.ErrNone)
				}
			}
			for _, pick := range []int64{0, 1, 5} {
				wantKnown(t, fmt.Sprintf("filled with %v, pick %d", l, pick), impl.FillCache(c, l, pick).Cache, plain(c).fill(l, pick))
			}
		})
	}
}

func TestFlushCacheRows(t *testing.T) {
	for _, row := range []struct {
		before      string
		domain, tag int64
		after       string
	}{
		{"2: 017 115", 0, 1, "2: 115"},
		{"2: 017 115", 1, 1, "2: 017"},
		{"2: 017 115", 1, 0, "2: 017 115"},
		{"2: 017 115", 0, 2, "2: 017 115"},
		{"2: 017 115", -1, 1, "2:"},
		{"2: 017 115", 0, -1, "2: 115"},
		{"2: 017 115", -1, -1, "2:"},
		{"6: 010 111 212 313 024 125", -1, 1, "6: 024 125"},
		{"6: 010 111 212 313 024 125", -1, 2, "6: 010 111 212 313"},
		{"6: 010 111 212 313 024 125", 0, -1, "6: 111 212 313 125"},
		{"6: 010 111 212 313 024 125", 1, -1, "6: 010 212 313 024"},
		{"6: 010 111 212 313 024 125", 3, -1, "6: 010 111 212 024 125"},
		{"6: 010 111 212 313 024 125", -1, -1, "6:"},
		{"6: 010 111 212 313 024 125", 2, 1, "6: 010 111 313 024 125"},
		// Tag 0 and domain 0 are of that one alone, as all others are.
		{"6: 305 015 115 025 215 105", -1, 0, "6: 015 115 025 215"},
		{"6: 305 015 115 025 215 105", 0, 0, "6: 305 015 115 025 215 105"},
		{"6: 305 015 115 025 215 105", 3, 0, "6: 015 115 025 215 105"},
		{"6: 305 015 115 025 215 105", 0, -1, "6: 305 115 215 105"},
		// Only -1 is of any.
		{"2: 017 115", -2, 1, "2: 017 115"},
		{"2: 017 115", 0, -2, "2: 017 115"},
		{"2: 017 115", -2, -2, "2: 017 115"},
		{"2: 017 115", -1, -2, "2: 017 115"},
		{"2: 017 115", -2, -1, "2: 017 115"},
		{"2: 017 115", 4, 1, "2: 017 115"},
		{"2: 017 115", 0, 7, "2: 017 115"},
		{"2: 017 115", math.MaxInt64, -1, "2: 017 115"},
		{"2: 017 115", -1, math.MinInt64, "2: 017 115"},
		{"0:", 0, 0, "0:"},
		{"0:", -1, -1, "0:"},
		{"6:", -1, -1, "6:"},
	} {
		what := fmt.Sprintf("flush %q of %d and %d", row.before, row.domain, row.tag)
		wantCache(t, what, impl.FlushCache(cache(t, row.before), row.domain, row.tag), cache(t, row.after))
	}
}

// What was flushed is not known any more, all else is.
func TestLinesThatWereFlushed(t *testing.T) {
	asked := append(farNumbers(), -1, 0, 1, 2, 3, 4, 5, 6, 7)
	for _, text := range goodCaches() {
		c := cache(t, text)
		for _, domain := range asked {
			for _, tag := range asked {
				what := fmt.Sprintf("flush %q of %d and %d", text, domain, tag)
				got, want := impl.FlushCache(c, domain, tag), plain(c).flush(domain, tag)
				wantCache(t, what, got, want.cache())
				wantKnown(t, what, got.Cache, want)
				for _, l := range c.Lines {
					meant := (domain == -1 || l.Domain == domain) && (tag == -1 || l.Tag == tag)
					if known := impl.LookCache(got.Cache, l.Domain, l.Tag).Code == impl.OK; known == meant {
						t.Errorf("%s: %v is known: %v", what, l, known)
					}
				}
			}
		}
	}
}

// What is flushed is cleared: no line that is gone lies behind the end of the answer.
func TestFlushedLinesAreCleared(t *testing.T) {
	c := cache(t, "6: 017 117 217 317 127 227")
	for _, domain := range []int64{-1, 0, 1, 2, 3} {
		for _, tag := range []int64{-1, 1, 2} {
			lines := impl.FlushCache(c, domain, tag).Cache.Lines
			for _, l := range lines[len(lines):cap(lines)] {
				if l != (impl.Line{}) {
					t.Errorf("behind the end of what %d and %d leave lies %v", domain, tag, l)
				}
			}
		}
	}
}

func TestEvictCacheRows(t *testing.T) {
	for _, row := range []struct {
		before string
		pick   int64
		after  string
	}{
		{"2: 017 115", 0, "2: 115"},
		{"2: 017 115", 1, "2: 017"},
		{"2: 017 115", 2, "2: 115"},
		{"2: 017 115", 3, "2: 017"},
		{"1: 017", 0, "1:"},
		{"1: 017", 1, "1:"},
		{"6: 017", 5, "6:"},
		// How many lines there are is what counts, not how many there may be.
		{"6: 017 115", 2, "6: 115"},
		{"6: 017 115 027", 3, "6: 115 027"},
		{"6: 017 115 027", 5, "6: 017 115"},
		{"6: 000 010 020 030 040 050", 2, "6: 000 010 030 040 050"},
		{"6: 000 010 020 030 040 050", 5, "6: 000 010 020 030 040"},
		{"6: 000 010 020 030 040 050", 6, "6: 010 020 030 040 050"},
		{"6: 000 010 020 030 040 050", math.MaxInt64, "6: 000 020 030 040 050"},
		{"0:", 0, "0:"},
		{"0:", 3, "0:"},
		{"6:", 0, "6:"},
		{"6:", math.MaxInt64, "6:"},
	} {
		wantCache(t, fmt.Sprintf("evict of %q, pick %d", row.before, row.pick), impl.EvictCache(cache(t, row.before), row.pick), cache(t, row.after))
	}
}

func TestLineThatWasEvicted(t *testing.T) {
	for _, text := range goodCaches() {
		c := cache(t, text)
		for _, pick := range somePicks() {
			what := fmt.Sprintf("evict of %q, pick %d", text, pick)
			got := impl.EvictCache(c, pick)
			want := plain(c).evict(pick)
			wantCache(t, what, got, want.cache())
			wantKnown(t, what, got.Cache, want)
			if code := impl.CacheFault(got.Cache); code != impl.OK {
				t.Errorf("%s: the fault %d", what, code)
			}
		}
	}
}

// walkCache does all that can be done in so many steps from a cache.
func walkCache(t *testing.T, p plainCache, c impl.Cache, steps int, lines []impl.Line) {
	if t.Failed() {
		return
	}
	wantKnown(t, "on a walk", c, p)
	if steps == 0 {
		return
	}
	step := func(what string, got impl.CacheResult, next plainCache) {
		wantCache(t, what+" of "+cacheTold(c), got, next.cache())
		walkCache(t, next, got.Cache, steps-1, lines)
	}
	for _, pick := range []int64{0, 1, 5} {
		step(fmt.Sprint("evict, pick ", pick), impl.EvictCache(c, pick), p.evict(pick))
		for _, l := range lines {
			step(fmt.Sprint("fill with ", l, ", pick ", pick), impl.FillCache(c, l, pick), p.fill(l, pick))
		}
	}
	for _, asked := range [][2]int64{{-1, 1}, {0, -1}, {0, 1}} {
		step(fmt.Sprint("flush ", asked), impl.FlushCache(c, asked[0], asked[1]), p.flush(asked[0], asked[1]))
	}
}

func TestCacheWalks(t *testing.T) {
	lines := []impl.Line{line(t, "017"), line(t, "010"), line(t, "115"), line(t, "000")}
	for size := range int64(4) {
		walkCache(t, plainCache{size: size}, impl.Cache{Size: size}, 3, lines)
	}
	for _, text := range goodCaches() {
		c := cache(t, text)
		walkCache(t, plain(c), c, 2, lines)
	}
}

// A cache of any size forgets no more than it must: with the pick 0 it has the last lines that were filled.
func TestCacheForgetsTheEldest(t *testing.T) {
	for size := range int64(7) {
		c, filled := impl.Cache{Size: size}, []impl.Line{}
		for n := range int64(28) {
			l := impl.Line{Domain: n % 4, Tag: n % 7, Perm: n % 8}
			filled = append(filled, l)
			got := impl.FillCache(c, l, 0)
			want := filled[max(0, int64(len(filled))-size):]
			wantCache(t, fmt.Sprintf("fill %s with %v", cacheTold(c), l), got, impl.Cache{Size: size, Lines: want})
			c = got.Cache
		}
	}
}

func TestCacheTrueRows(t *testing.T) {
	// What the domains may with tags 0, 1 and 2: 0 7 0, 0 5 7, 0 7 7, 0 7 7.
	x := tables(t, "2:1111 2:1311 1:1*11 1:**** | 0 1 | 0 1 2 3")
	for text, want := range map[string]bool{
		"0:":                             true,
		"6:":                             true,
		"2: 017":                         true,
		"2: 020":                         true,
		"2: 115":                         true,
		"2: 017 115":                     true,
		"6: 017 020 115 127 217 227":     true,
		"6: 000 100 200 300 317 327":     true,
		"2: 015":                         false,
		"2: 010":                         false,
		"2: 117":                         false,
		"2: 017 117":                     false,
		"2: 117 017":                     false,
		"2: 020 225":                     false,
		"6: 017 020 115 127 217 220":     false,
		"6: 007":                         false,
		"6: 100 201":                     false,
		"6: 017 020 115 127 217 000 100": false,
		"1: 017 115":                     false,
		"7: 017":                         false,
		"-1:":                            false,
		"2: 017 017":                     false,
		"6: 017 115 017":                 false,
		"6: 418":                         false,
		"6: 030":                         false,
		"6: 060":                         false,
		"6: 017 115 030":                 false,
		"6: 077":                         false,
		"6: 410":                         false,
	} {
		if got := impl.CacheTrue(cache(t, text), x); got != want {
			t.Errorf("%q: %v", text, got)
		}
	}
}

// A domain or tag that the tables have not is not known, though nothing is allowed there.
func TestCacheTrueOfWhatThereIsNot(t *testing.T) {
	for _, row := range []struct {
		cache, tables string
		want          bool
	}{
		{"1:", "| |", true},
		{"1: 000", "| |", false},
		{"1: 000", "1:1111 | | 0", true},
		{"1: 001", "1:1111 | | 0", false},
		{"1: 100", "1:1111 | | 0", false},
		{"1: 010", "1:1111 | | 0", false},
		{"1: 000", "1:1111 | 0 |", false},
		{"1: 010", "1:1111 | 0 |", false},
		{"1: 017", "1:1111 | 0 |", false},
		{"1: 017", "2:1111 | 0 | 0", true},
		{"1: 010", "1:1111 1:0000 | 0 | 1", true},
		{"1: 020", "1:1111 1:0000 | 0 | 1", false},
		{"1: 110", "1:1111 1:0000 | 0 | 1", false},
		{"2: 010 020", "1:1111 1:0000 | 0 | 1", false},
		{"2: 020 010", "1:1111 1:0000 | 0 | 1", false},
		{"2: 010 000", "1:1111 1:0000 | 0 | 1", true},
		{"1: 367", fullTables, false},
		{"1: 260", fullTables, false},
		{"1: 267", fullTables, true},
	} {
		if got := impl.CacheTrue(cache(t, row.cache), tables(t, row.tables)); got != row.want {
			t.Errorf("%q with %q: %v", row.cache, row.tables, got)
		}
	}
}

// trueLines are all that tables say, told by levels.
func trueLines(x impl.Tables) []impl.Line {
	h, list := holdingOf(x), []impl.Line{}
	for domain, who := range h.domains {
		list = append(list, impl.Line{Domain: int64(domain)})
		for i, what := range h.tags {
			list = append(list, impl.Line{Domain: int64(domain), Tag: int64(i) + 1, Perm: permTold(who, what)})
		}
	}
	return list
}

// Of each domain and tag one perm alone is true, alone and behind other lines.
func TestCacheTrueOfAllLines(t *testing.T) {
	for _, text := range goodTables() {
		x := tables(t, text)
		right := map[impl.Line]bool{}
		for _, l := range trueLines(x) {
			right[l] = true
		}
		eachLine(func(l impl.Line) {
			if got := impl.CacheTrue(impl.Cache{Size: 1, Lines: []impl.Line{l}}, x); got != right[l] {
				t.Errorf("%v alone with %q: %v", l, text, got)
			}
			for _, first := range trueLines(x) {
				if first.Domain == l.Domain && first.Tag == l.Tag {
					continue
				}
				both, turned := []impl.Line{first, l}, []impl.Line{l, first}
				if impl.CacheTrue(impl.Cache{Size: 2, Lines: both}, x) != right[l] || impl.CacheTrue(impl.Cache{Size: 6, Lines: turned}, x) != right[l] {
					t.Errorf("%v and %v with %q: not %v", first, l, text, right[l])
				}
			}
		})
	}
}

func TestCacheTrueOfFaults(t *testing.T) {
	faulty := append(faultyTables(t), manyFaults(t)...)
	for _, text := range []string{"0:", "6:", "1: 017", "2: 000 100"} {
		for _, f := range faulty {
			if impl.CacheTrue(cache(t, text), f.tables) {
				t.Errorf("%q is true with tables that have a fault: %s", text, f.name)
			}
		}
	}
	for _, f := range allFaultyCaches(t) {
		for _, text := range goodTables() {
			if impl.CacheTrue(f.cache, tables(t, text)) {
				t.Errorf("%s is true with %q", f.name, text)
			}
		}
		for _, g := range faulty[:20] {
			if impl.CacheTrue(f.cache, g.tables) {
				t.Errorf("%s is true with tables that have a fault: %s", f.name, g.name)
			}
		}
	}
}

// What is filled as the labels tell it stays true, whatever is evicted and flushed.
func TestCacheStaysTrue(t *testing.T) {
	for _, text := range goodTables() {
		x := tables(t, text)
		for size := range int64(7) {
			c := impl.Cache{Size: size}
			for n, l := range trueLines(x) {
				c = impl.FillCache(c, l, int64(n)).Cache
				for _, now := range []impl.Cache{c, impl.EvictCache(c, int64(n)).Cache, impl.FlushCache(c, l.Domain, -1).Cache, impl.FlushCache(c, -1, l.Tag).Cache} {
					if !impl.CacheTrue(now, x) {
						t.Errorf("%s is not true with %q", cacheTold(now), text)
					}
				}
			}
		}
	}
}
