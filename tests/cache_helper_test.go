package tests

import (
	"fmt"
	"math"
	"slices"
	"strconv"
	"strings"
	"testing"

	"loop.example/g00530/impl"
)

// cache reads a size and lines, each the digits of its domain, tag and perm: "2: 017 115".
func cache(t *testing.T, text string) impl.Cache {
	t.Helper()
	size, rest, found := strings.Cut(text, ":")
	number, err := strconv.ParseInt(size, 10, 64)
	if !found || err != nil {
		t.Fatalf("the test's own cache %q has no size", text)
	}
	lines := []impl.Line{}
	for _, word := range strings.Fields(rest) {
		lines = append(lines, line(t, word))
	}
	return impl.Cache{Size: number, Lines: lines}
}

func line(t *testing.T, text string) impl.Line {
	t.Helper()
	if len(text) != 3 || strings.Trim(text, "0123456789") != "" {
		t.Fatalf("the test's own line %q is no three digits", text)
	}
	return impl.Line{Domain: int64(text[0] - '0'), Tag: int64(text[1] - '0'), Perm: int64(text[2] - '0')}
}

// goodCaches are as texts what a cache can be: of each size, without lines, with some, with as many as may be.
func goodCaches() []string {
	return []string{
		"0:",
		"1:", "1: 017", "1: 000", "1: 367",
		"2:", "2: 115", "2: 017 115", "2: 115 017", "2: 000 010",
		"3: 000 360", "3: 017 027 037", "3: 010 110 210",
		"4: 302 201 100 000", "4: 367 007 060",
		"5: 000 101 202 303", "5: 012 112 212 312 022", "5: 010",
		"6:", "6: 367", "6: 000 010 020 030 040 050", "6: 067 057 047 037 027 017",
		"6: 010 111 212 313 024 125", "6: 305 015 115 025 215 105", "6: 017 117 217 317 007",
	}
}

type faultyCache struct {
	name  string
	cache impl.Cache
	code  int64
}

// farNumbers leave every bound, by much or only in their high bits.
func farNumbers() []int64 {
	return []int64{-2, 1 << 32, 1<<32 + 1, -1 << 32, math.MinInt64, math.MinInt64 + 1, math.MaxInt64, math.MaxInt64 - 1}
}

// faultyLines have a number that leaves its bounds, wherever they stand.
func faultyLines() []impl.Line {
	list := []impl.Line{}
	for _, number := range append(farNumbers(), -1) {
		list = append(list, impl.Line{Domain: number, Tag: 5, Perm: 7}, impl.Line{Domain: 3, Tag: number, Perm: 7}, impl.Line{Domain: 3, Tag: 5, Perm: number})
	}
	return append(list,
		impl.Line{Domain: 4, Tag: 5, Perm: 7}, impl.Line{Domain: 3, Tag: 7, Perm: 7}, impl.Line{Domain: 3, Tag: 5, Perm: 8},
		impl.Line{Domain: 4}, impl.Line{Tag: 7}, impl.Line{Perm: 8}, impl.Line{Domain: -1, Tag: -1, Perm: -1}, impl.Line{Domain: 4, Tag: 7, Perm: 8})
}

func faultyCaches(t *testing.T) []faultyCache {
	t.Helper()
	list := []faultyCache{}
	for _, size := range append(farNumbers(), -1, 7, 8) {
		for _, lines := range []string{"6:", "6: 017", "6: 000 010 020 030 040 050"} {
			list = append(list, faultyCache{fmt.Sprintf("a size of %d: %s", size, lines), impl.Cache{Size: size, Lines: cache(t, lines).Lines}, impl.ErrRange})
		}
	}
	for _, text := range []string{"0: 017", "0: 017 027", "1: 017 115", "2: 017 115 027", "5: 000 010 020 030 040 050", "6: 000 010 020 030 040 050 060", "6:" + strings.Repeat(" 017", 99)} {
		list = append(list, faultyCache{text, cache(t, text), impl.ErrMany})
	}
	for _, l := range faultyLines() {
		for place := range 6 {
			c := cache(t, "6: 010 111 212 313 024 125")
			c.Lines[place] = l
			list = append(list, faultyCache{fmt.Sprintf("%v at %d", l, place), c, impl.ErrRange})
		}
		list = append(list, faultyCache{fmt.Sprintf("%v alone", l), impl.Cache{Size: 1, Lines: []impl.Line{l}}, impl.ErrRange})
	}
	for _, text := range []string{"2: 017 017", "2: 000 000", "3: 017 115 017", "3: 115 017 015", "6: 000 010 020 030 040 000", "6: 000 010 020 030 040 047", "6: 367 117 017 217 010 027"} {
		list = append(list, faultyCache{text, cache(t, text), impl.ErrState})
	}
	return list
}

// severalFaults have more faults than one; the code is that of the first: by the size, by how many, and then line by line.
func severalFaults(t *testing.T) []faultyCache {
	t.Helper()
	texts := map[int64][]string{
		impl.ErrRange: {
			"7: 017 017 817 017 019 017 079 017", "-1: 017", "-1: 417 417", "7: 017 017", "7: 018",
			"3: 018 017 017", "3: 417 017 017", "3: 017 018 017", "4: 017 177 027 027", "2: 418 418", "2: 018 018", "2: 017 018", "6: 017 115 027 077 017",
		},
		impl.ErrMany:  {"0: 418", "0: 017 017", "1: 017 017", "1: 417 417", "2: 017 027 018", "2: 018 017 017", "6: 017 017 017 418 017 017 017"},
		impl.ErrState: {"3: 017 017 018", "3: 017 010 417", "4: 017 027 027 077", "6: 017 115 017 418 077 018"},
	}
	list := []faultyCache{}
	for code, rows := range texts {
		for _, text := range rows {
			list = append(list, faultyCache{text, cache(t, text), code})
		}
	}
	return list
}

func allFaultyCaches(t *testing.T) []faultyCache {
	t.Helper()
	return append(faultyCaches(t), severalFaults(t)...)
}

// eachLine goes through all lines that there can be.
func eachLine(visit func(l impl.Line)) {
	for n := range int64(4 * 7 * 8) {
		visit(impl.Line{Domain: n / 56, Tag: n / 8 % 7, Perm: n % 8})
	}
}

// somePicks are all places of a full cache, what is as great as how many lines there are, and greater ones.
func somePicks() []int64 {
	return []int64{0, 1, 2, 3, 4, 5, 6, 7, 8, 11, 12, 59, 60, 61, 999, 1 << 31, 1<<32 + 1, math.MaxInt64 - 1, math.MaxInt64}
}

func noPicks() []int64 {
	return []int64{-1, -2, -6, -60, -1 << 32, math.MinInt64 + 1, math.MinInt64}
}

// plainCache is a cache told as plainly as can be, to hold answers against.
type plainCache struct {
	size  int64
	lines []impl.Line
}

func plain(c impl.Cache) plainCache {
	return plainCache{c.Size, slices.Clone(c.Lines)}
}

func (p plainCache) cache() impl.Cache {
	return impl.Cache{Size: p.size, Lines: p.lines}
}

func (p plainCache) look(domain, tag int64) (int64, bool) {
	for _, l := range p.lines {
		if l.Domain == domain && l.Tag == tag {
			return l.Perm, true
		}
	}
	return 0, false
}

func (p plainCache) flush(domain, tag int64) plainCache {
	left := plainCache{size: p.size}
	for _, l := range p.lines {
		if domain != -1 && l.Domain != domain || tag != -1 && l.Tag != tag {
			left.lines = append(left.lines, l)
		}
	}
	return left
}

func (p plainCache) evict(pick int64) plainCache {
	left := plainCache{size: p.size}
	for place, l := range p.lines {
		if int64(place) != pick%int64(len(p.lines)) {
			left.lines = append(left.lines, l)
		}
	}
	return left
}

func (p plainCache) fill(l impl.Line, pick int64) plainCache {
	left := p.flush(l.Domain, l.Tag)
	if left.size == 0 {
		return left
	}
	if int64(len(left.lines)) == left.size {
		left = left.evict(pick)
	}
	left.lines = append(left.lines, l)
	return left
}

// cacheTold compares by all that there is.
func cacheTold(c impl.Cache) string {
	told := fmt.Sprint(c.Size, ":")
	for _, l := range c.Lines {
		told += fmt.Sprintf(" %d.%d.%d", l.Domain, l.Tag, l.Perm)
	}
	return told
}

// wantCache also asks that Value is how many lines there are, which all functions that answer a cache tell.
func wantCache(t *testing.T, what string, got impl.CacheResult, want impl.Cache) {
	t.Helper()
	if got.Code != impl.OK || got.Value != int64(len(want.Lines)) || cacheTold(got.Cache) != cacheTold(want) {
		t.Errorf("%s: code %d, value %d, cache %s; want value %d, cache %s", what, got.Code, got.Value, cacheTold(got.Cache), len(want.Lines), cacheTold(want))
	}
}

// wantNoCache also asks that all but the code is zero.
func wantNoCache(t *testing.T, what string, got impl.CacheResult, code int64) {
	t.Helper()
	if got.Code != code || got.Value != 0 || got.Cache.Size != 0 || len(got.Cache.Lines) != 0 {
		t.Errorf("%s: code %d, value %d, cache %s; want code %d and all else zero", what, got.Code, got.Value, cacheTold(got.Cache), code)
	}
}
