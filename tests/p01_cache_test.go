package tests

// Promise 1, for the permission cache: every function answers at every argument, ends, and changes none; what it answers
// is new memory; it hangs on the arguments alone.

import (
	"fmt"
	"math"
	"slices"
	"strings"
	"testing"

	"loop.example/g00530/impl"
)

// A fault of the cache is told whatever else is asked, be that right or wrong, and nothing else is told then.
func TestCacheFaultsComeFirst(t *testing.T) {
	lines := []impl.Line{line(t, "017"), line(t, "000"), {Domain: 4}, {Tag: 7}, {Perm: 8}, {Domain: -1, Tag: -1, Perm: -1}}
	for _, f := range allFaultyCaches(t) {
		for _, number := range []int64{0, 1, 3, -1, -2, 7, math.MinInt64, math.MaxInt64} {
			what := fmt.Sprintf("%s with %d", f.name, number)
			wantNoCache(t, "EvictCache: "+what, impl.EvictCache(f.cache, number), f.code)
			for _, l := range lines {
				wantNoCache(t, fmt.Sprintf("FillCache: %s and %v", what, l), impl.FillCache(f.cache, l, number), f.code)
			}
			for _, other := range []int64{0, 1, -1, math.MaxInt64} {
				wantNoInt(t, fmt.Sprintf("LookCache: %s and %d", what, other), impl.LookCache(f.cache, number, other), f.code)
				wantNoCache(t, fmt.Sprintf("FlushCache: %s and %d", what, other), impl.FlushCache(f.cache, number, other), f.code)
			}
		}
	}
}

// Where there is room for none, or nothing to evict, a pick below 0 is told, too.
func TestCachePicksBelowZero(t *testing.T) {
	for _, text := range goodCaches() {
		c := cache(t, text)
		for _, pick := range noPicks() {
			wantNoCache(t, fmt.Sprintf("evict of %q, pick %d", text, pick), impl.EvictCache(c, pick), impl.ErrRange)
			for _, l := range append([]impl.Line{line(t, "017"), line(t, "000"), line(t, "367"), {Domain: 4}}, c.Lines...) {
				wantNoCache(t, fmt.Sprintf("fill %q with %v, pick %d", text, l, pick), impl.FillCache(c, l, pick), impl.ErrRange)
			}
		}
	}
}

func TestFillCacheWithFaultyLines(t *testing.T) {
	for _, text := range goodCaches() {
		for _, l := range faultyLines() {
			for _, pick := range []int64{0, 1, 6, math.MaxInt64, -1} {
				wantNoCache(t, fmt.Sprintf("fill %q with %v, pick %d", text, l, pick), impl.FillCache(cache(t, text), l, pick), impl.ErrRange)
			}
		}
	}
}

// A full cache refuses a line just outside each bound and takes the one just inside.
func TestFillCacheAtTheBounds(t *testing.T) {
	for domain := int64(-1); domain <= 4; domain++ {
		for tag := int64(-1); tag <= 7; tag++ {
			for perm := int64(-1); perm <= 8; perm++ {
				l := impl.Line{Domain: domain, Tag: tag, Perm: perm}
				got := impl.FillCache(cache(t, "2: 017 115"), l, 0)
				if domain < 0 || domain > 3 || tag < 0 || tag > 6 || perm < 0 || perm > 7 {
					wantNoCache(t, fmt.Sprint("fill with ", l), got, impl.ErrRange)
				} else if got.Code != impl.OK || !slices.Contains(got.Cache.Lines, l) {
					t.Errorf("fill with %v: code %d, cache %s", l, got.Code, cacheTold(got.Cache))
				}
			}
		}
	}
}

// askedNumbers are what cacheAnswers asks with as domain, tag and pick.
var askedNumbers = []int64{-2, -1, 0, 1, 2, 3, 6, 7, math.MinInt64, math.MaxInt64}

// cacheAnswers tells all that the functions answer for a cache, a line and tables.
func cacheAnswers(c impl.Cache, l impl.Line, x impl.Tables) string {
	told := []string{fmt.Sprint(impl.CacheFault(c), impl.CacheTrue(c, x))}
	tell := func(got impl.CacheResult) {
		told = append(told, fmt.Sprint(got.Code, got.Value, cacheTold(got.Cache)))
	}
	for _, number := range askedNumbers {
		tell(impl.EvictCache(c, number))
		tell(impl.FillCache(c, l, number))
		for _, other := range askedNumbers {
			tell(impl.FlushCache(c, number, other))
			told = append(told, fmt.Sprint(impl.LookCache(c, number, other)))
		}
	}
	return strings.Join(told, "; ")
}

func TestCacheNilIsEmpty(t *testing.T) {
	x := tables(t, "2:1111 | 0 | 0")
	for size := int64(-1); size <= 7; size++ {
		none, empty := impl.Cache{Size: size}, impl.Cache{Size: size, Lines: []impl.Line{}}
		if a, b := cacheAnswers(none, line(t, "017"), x), cacheAnswers(empty, line(t, "017"), x); a != b {
			t.Errorf("size %d: without a list %s, with an empty one %s", size, a, b)
		}
	}
}

// roomyCache has its lines in memory that goes on behind them, where a careless append would be seen.
func roomyCache(c impl.Cache) (impl.Cache, []impl.Line) {
	behind := []impl.Line{{Domain: 3, Tag: 6, Perm: 7}, {Domain: 77, Tag: 78, Perm: 79}, {Domain: 87, Tag: 88, Perm: 89}}
	memory := append(slices.Clone(c.Lines), behind...)
	return impl.Cache{Size: c.Size, Lines: memory[:len(c.Lines)]}, memory
}

func manyCaches(t *testing.T) []impl.Cache {
	t.Helper()
	list := []impl.Cache{}
	for _, text := range goodCaches() {
		list = append(list, cache(t, text))
	}
	for _, f := range severalFaults(t) {
		list = append(list, f.cache)
	}
	return list
}

func TestCacheArgumentsStay(t *testing.T) {
	lines := []impl.Line{line(t, "017"), line(t, "000"), line(t, "360"), line(t, "115"), {Domain: 9, Tag: -1}}
	texts := []string{"| |", "2:1111 | 0 | 0", "2:1111 2:1311 1:1*11 1:**** | 0 1 | 0 1 2 3", fullTables, "2:1111 | 0 |"}
	for _, given := range manyCaches(t) {
		for _, l := range lines {
			for _, text := range texts {
				c, memory := roomyCache(given)
				x, told := roomyTables(tables(t, text))
				was, tablesWere := slices.Clone(memory), told()
				cacheAnswers(c, l, x)
				if !slices.Equal(memory, was) || told() != tablesWere {
					t.Errorf("%v, or %s became %v, %s", was, tablesWere, memory, told())
				}
			}
		}
	}
}

// What lies behind the end of a list is no part of it: the answers are those of a list that ends there.
func TestCacheAnswersHangOnNoCapacity(t *testing.T) {
	x := tables(t, "2:1111 2:1311 1:1*11 1:**** | 0 1 | 0 1 2 3")
	for _, given := range manyCaches(t) {
		c, _ := roomyCache(given)
		tight := impl.Cache{Size: given.Size, Lines: slices.Clip(slices.Clone(given.Lines))}
		if a, b := cacheAnswers(c, line(t, "017"), x), cacheAnswers(tight, line(t, "017"), x); a != b {
			t.Errorf("%s: with memory behind it %s, else %s", cacheTold(given), a, b)
		}
	}
}

// overwriteCache turns all of the cache's memory, what lies behind its end too.
func overwriteCache(c impl.Cache) {
	whole := c.Lines[:cap(c.Lines)]
	for place := range whole {
		whole[place] = impl.Line{Domain: 97, Tag: 98, Perm: 99}
	}
}

// cacheCalls are the calls that answer a cache: with lines that are there and that are not, and flushes of none, some and all.
func cacheCalls(c impl.Cache) map[string]func() impl.CacheResult {
	calls := map[string]func() impl.CacheResult{}
	for _, pick := range []int64{0, 1, 5, 6} {
		calls[fmt.Sprint("EvictCache ", pick)] = func() impl.CacheResult { return impl.EvictCache(c, pick) }
		for _, l := range append([]impl.Line{{Domain: 3, Tag: 3, Perm: 3}, {}}, c.Lines...) {
			calls[fmt.Sprint("FillCache ", l, pick)] = func() impl.CacheResult { return impl.FillCache(c, l, pick) }
		}
	}
	for _, asked := range [][2]int64{{-2, -2}, {-1, -1}, {0, -1}, {-1, 1}, {0, 1}, {1, 1}} {
		calls[fmt.Sprint("FlushCache ", asked)] = func() impl.CacheResult { return impl.FlushCache(c, asked[0], asked[1]) }
	}
	return calls
}

func TestCacheAnswersAreNewMemory(t *testing.T) {
	for _, text := range goodCaches() {
		c, memory := roomyCache(cache(t, text))
		was := slices.Clone(memory)
		for name, call := range cacheCalls(c) {
			overwriteCache(call().Cache)
			if !slices.Equal(memory, was) {
				t.Fatalf("%s: an answer shares memory with %q: %v, and was %v", name, text, memory, was)
			}
		}
	}
}

func TestCacheAnswersAreApart(t *testing.T) {
	for _, text := range goodCaches() {
		for name, call := range cacheCalls(cache(t, text)) {
			first, second := call(), call()
			was := cacheTold(second.Cache)
			overwriteCache(first.Cache)
			if cacheTold(second.Cache) != was || cacheTold(call().Cache) != was {
				t.Errorf("%s of %q: an answer hangs on another one", name, text)
			}
		}
	}
}

// What is done with a cache that was answered does not turn another one that was answered from it.
func TestCacheAnswersBranch(t *testing.T) {
	c := impl.FillCache(impl.FillCache(impl.Cache{Size: 6}, line(t, "017"), 0).Cache, line(t, "115"), 0).Cache
	a, b := impl.FillCache(c, line(t, "020"), 0), impl.FillCache(c, line(t, "127"), 0)
	flushed := impl.FlushCache(c, 1, -1)
	refilled := impl.FillCache(flushed.Cache, line(t, "360"), 0)
	wantCache(t, "the first", a, cache(t, "6: 017 115 020"))
	wantCache(t, "the second", b, cache(t, "6: 017 115 127"))
	wantCache(t, "flushed", flushed, cache(t, "6: 017"))
	wantCache(t, "flushed and filled", refilled, cache(t, "6: 017 360"))
	if cacheTold(c) != "6: 0.1.7 1.1.5" {
		t.Error(cacheTold(c))
	}
}

func TestCacheAnswersHangOnArgumentsAlone(t *testing.T) {
	x, l := tables(t, "2:1111 2:1311 1:1*11 1:**** | 0 1 | 0 1 2 3"), line(t, "217")
	full, some, none := cache(t, "2: 017 115"), cache(t, "6: 017 020 115 127"), cache(t, "0:")
	answers := func() string {
		return cacheAnswers(full, l, x) + cacheAnswers(some, l, x) + cacheAnswers(none, l, x)
	}
	was := answers()
	for _, other := range manyCaches(t) {
		cacheAnswers(other, line(t, "017"), tables(t, fullTables))
		cacheAnswers(other, line(t, "360"), impl.Tables{Tags: []int64{0}})
		if got := answers(); got != was {
			t.Fatalf("behind calls with %s the answers are %s, and were %s", cacheTold(other), got, was)
		}
	}
}
