package tests

// Promise 9: whatever is asked of the monitor leaves nothing wrong behind; words are marked anew by who may modify what they
// were and what they become, and by nobody else; a gate turns who it leads to, if it is not below who enters, and tells who
// enters nothing.

import (
	"fmt"
	"math/rand"
	"slices"
	"strings"
	"testing"

	"loop.example/g00530/impl"
)

func TestMonitorBounds(t *testing.T) {
	got := []int64{impl.CallTaint, impl.CallRetag, impl.CallGate, impl.CallYield}
	if want := []int64{1, 2, 3, 4}; !slices.Equal(got, want) {
		t.Errorf("%v; want %v", got, want)
	}
}

// The system of a bench, on which calls of the monitor are tried.
func TestBenchSystem(t *testing.T) {
	want := systemOf(tables(t, "2:1111 2:1311 | 0 1 | 0 1"), slices.Repeat([]impl.Word{{Tag: 1}}, 8)...)
	want.Memory.Words = append(want.Memory.Words, slices.Repeat([]impl.Word{{Tag: 2}}, 8)...)
	want.Contexts = []impl.Context{{Regs: make([]int64, 8)}, {Regs: make([]int64, 8)}}
	want.Cache, want.Gates = cache(t, "2:"), []impl.Gate{{Domain: 1, Entry: 8}}
	first, second := impl.NewBench(), impl.NewBench()
	if first.Code != impl.OK || !sameSystem(first.Bench.System, want) || impl.SystemFault(first.Bench.System) != impl.OK {
		t.Errorf("code %d, %v; want %v", first.Code, first.Bench.System, want)
	}
	wantApart(t, "a bench", first, second)
}

func TestTaintSelfRows(t *testing.T) {
	for _, row := range []struct {
		before string
		active int64
		tag    int64
		said   int64
		after  string
	}{
		{"2:1111 2:1311 | 0 1 | 0 1", 0, 2, 0, "1:1111 3:1311 | 0 1 | 1 1"},
		{"2:1111 2:1311 | 0 1 | 0 1", 0, 1, 0, "2:1111 2:1311 | 0 1 | 0 1"},
		{"2:1111 2:1311 | 0 1 | 0 1", 1, 1, 0, "2:1111 2:1311 | 0 1 | 0 1"},
		{"2:1111 2:1311 | 0 1 | 0 1", 1, 2, 0, "2:1111 2:1311 | 0 1 | 0 1"},
		{"1:0123 1:3210 | 0 | 1", 0, 1, 0, "1:0123 1:3223 | 0 | 1"},
		{"1:0000 1:3210 | 0 | 1", 0, 1, 0, "1:0000 1:3210 | 0 | 1"},
		// What is owned is not tainted, all else is.
		{"1:3333 1:1*11 | 0 | 1", 0, 1, 0, "1:3333 1:3*33 | 0 | 1"},
		{"1:3333 1:**** | 0 | 1", 0, 1, 0, "1:3333 1:**** | 0 | 1"},
		// The label moves to the first slot that is empty, though it stays what it was.
		{"1:1111 - 1:1311 | 0 | 2", 0, 1, 0, "1:1111 1:1311 - | 0 | 1"},
		// The greatest tag of six, and none.
		{fullTables, 3, 6, 0, "1:1111 1:1311 1:0000 1:3333 1:0123 1:3210 1:*111 1:1*11 1:**** 1:3222 | 0 1 2 3 4 5 | 6 7 8 9"},
		{fullTables, 3, 4, 0, "1:1111 1:1311 1:0000 2:3333 1:0123 1:3210 1:*111 1:1*11 1:**** - | 0 1 2 3 4 5 | 6 7 8 3"},
		{fullTables, 3, 7, 1, fullTables},
		{fullTables, 3, 0, 1, fullTables},
		{fullTables, 3, -1, 1, fullTables},
		{"2:1111 2:1311 | 0 1 | 0 1", 0, 3, 1, "2:1111 2:1311 | 0 1 | 0 1"},
		{"2:1111 2:1311 | 0 1 | 0 1", 0, 0, 1, "2:1111 2:1311 | 0 1 | 0 1"},
	} {
		s := systemOf(tables(t, row.before), impl.Word{Value: 9, Tag: 1})
		s.Active = row.active
		want := impl.CallResult{Said: row.said, System: turned(s, func(s *impl.System) { s.Tables = tables(t, row.after) })}
		wantCall(t, fmt.Sprintf("domain %d of %q by tag %d", row.active, row.before, row.tag), impl.TaintSelf(s, row.tag), want)
	}
}

// Behind a taint no line of who was tainted is known, be it still true or not, and all lines of the others are, in their order.
func TestTaintSelfForgets(t *testing.T) {
	for _, row := range []struct {
		active        int64
		before, after string
	}{
		{0, "6: 017 115 217 317 020 337", "6: 115 217 317 337"},
		{1, "6: 017 115 217 317 020 337", "6: 017 217 317 020 337"},
		{2, "6: 017 115 217 317 020 337", "6: 017 115 317 020 337"},
		{3, "6: 017 115 217 317 020 337", "6: 017 115 217 020"},
		{0, "4: 000 017 020 035", "4:"},
		{1, "4: 000 017 020 035", "4: 000 017 020 035"},
		{1, "6: 100 017 115 127 135 200", "6: 017 200"},
		{3, "1: 300", "1:"},
		{2, "1: 300", "1: 300"},
		{0, "0:", "0:"},
		{0, "6:", "6:"},
	} {
		s := gated(t, row.active)
		s.Cache = cache(t, row.before)
		for tag := int64(1); tag <= 3; tag++ {
			got := impl.TaintSelf(s, tag)
			what := fmt.Sprintf("%q behind a taint of domain %d by tag %d", row.before, row.active, tag)
			if cacheTold(got.System.Cache) != cacheTold(cache(t, row.after)) || !impl.CacheTrue(got.System.Cache, got.System.Tables) {
				t.Errorf("%s: %s; want %s", what, cacheTold(got.System.Cache), row.after)
			}
			wantCall(t, what, got, plainTaint(s, tag))
		}
		for _, tag := range []int64{0, -1, 4, 7} {
			wantCall(t, fmt.Sprintf("%q behind none of domain %d by tag %d", row.before, row.active, tag), impl.TaintSelf(s, tag), notSo(s, 1))
		}
	}
}

// labelsTold are labels of all kinds that a domain, and those that a tag can have.
func labelsTold(t *testing.T) (owners, things []impl.Label) {
	t.Helper()
	for _, text := range []string{"1111", "1311", "3111", "0000", "3333", "0123", "3210", "2222"} {
		things = append(things, label(t, text))
	}
	owners = slices.Clone(things)
	for _, text := range []string{"*111", "1*11", "111*", "****", "*3*0", "0*0*"} {
		owners = append(owners, label(t, text))
	}
	return owners, things
}

// twoTags has a domain of one label, and tags of two others.
func twoTags(t *testing.T, who, first, second impl.Label) impl.System {
	t.Helper()
	x := impl.AddTag(impl.AddTag(impl.Tables{}, first).Tables, second).Tables
	s := systemOf(impl.AddDomain(x, who).Tables, impl.Word{Value: 7, Tag: 1}, impl.Word{Value: 8, Tag: 1}, impl.Word{Value: 9, Tag: 2})
	if code := impl.SystemFault(s); code != impl.OK {
		t.Fatalf("the test's own system of %v, %v and %v has the fault %d", who, first, second, code)
	}
	return s
}

func TestTaintSelfOfLabels(t *testing.T) {
	owners, things := labelsTold(t)
	want := func(who, what impl.Label) {
		got := impl.TaintSelf(twoTags(t, who, what, label(t, "1111")), 1)
		now := impl.DomainLabel(got.System.Tables, 0)
		if got.Said != 0 || !sameLabel(now.Label, tainted(who, what)) || !impl.CanObserve(now.Label, what) {
			t.Errorf("%v tainted by %v: said %d, %v", who.Levels, what.Levels, got.Said, now)
		}
	}
	eachOwner(func(who impl.Label) {
		for _, what := range things {
			want(who, what)
		}
	})
	eachThing(func(what impl.Label) {
		for _, who := range owners {
			want(who, what)
		}
	})
}

type retagRow struct {
	name         string
	active       int64
	words        string
	from, n, tag int64
	said         int64
	after        string
}

func wantRetags(t *testing.T, rows []retagRow) {
	t.Helper()
	for _, row := range rows {
		s := gated(t, row.active)
		s.Memory = marked(t, row.words)
		want := impl.CallResult{Said: row.said, System: turned(s, func(s *impl.System) { s.Memory = marked(t, row.after) })}
		wantCall(t, row.name, impl.RetagSelf(s, row.from, row.n, row.tag), want)
	}
}

// sameWords is what a row has behind a call by which nothing was done.
func sameWords(row retagRow) retagRow {
	row.said, row.after = 1, row.words
	return row
}

func TestRetagSelfDone(t *testing.T) {
	nine := "1.1; 2.1; 3.1; 4.1; 5.1; 6.1; 7.1; 8.1; 9.1"
	wantRetags(t, []retagRow{
		{"one word", 0, "5.1; 6.1; 7.1", 1, 1, 1, 0, "5.1; 0.1; 7.1"},
		{"the first", 0, "5.1; 6.1; 7.1", 0, 1, 1, 0, "0.1; 6.1; 7.1"},
		{"the last", 0, "5.1; 6.1; 7.1", 2, 1, 1, 0, "5.1; 6.1; 0.1"},
		{"a range that ends with the last", 0, "5.1; 6.1; 7.1", 1, 2, 1, 0, "5.1; 0.1; 0.1"},
		{"all", 0, "5.1; 6.1; 7.1", 0, 3, 1, 0, "0.1; 0.1; 0.1"},
		{"eight", 0, nine, 0, 8, 1, 0, "0.1; 0.1; 0.1; 0.1; 0.1; 0.1; 0.1; 0.1; 9.1"},
		{"eight to the last", 0, nine, 1, 8, 1, 0, "1.1; 0.1; 0.1; 0.1; 0.1; 0.1; 0.1; 0.1; 0.1"},
		{"what others around may not be", 0, "5.2; 6.1; 7.0", 1, 1, 1, 0, "5.2; 0.1; 7.0"},
		{"what may only be read around", 0, "5.3; 6.1; 7.3", 1, 1, 1, 0, "5.3; 0.1; 7.3"},
		{"up, by who owns", 2, "5.1; 6.1; 7.1", 1, 2, 2, 0, "5.1; 0.2; 0.2"},
		{"down, by who owns", 2, "5.2; 6.2; 7.2", 0, 2, 1, 0, "0.1; 0.1; 7.2"},
		{"of two tags, by who owns", 2, "5.2; 6.1; 7.2", 0, 3, 2, 0, "0.2; 0.2; 0.2"},
		{"the greatest tag, by who owns all", 3, "5.1; 6.2; 7.3", 0, 3, 3, 0, "0.3; 0.3; 0.3"},
		{"its own, by who is tainted", 1, "5.1; 6.2; 7.1", 1, 1, 2, 0, "5.1; 0.2; 7.1"},
	})
}

func TestRetagSelfNotDone(t *testing.T) {
	nine := "1.1; 2.1; 3.1; 4.1; 5.1; 6.1; 7.1; 8.1; 9.1"
	rows := []retagRow{
		{name: "none", words: nine, from: 0, n: 0, tag: 1},
		{name: "none behind the last", words: nine, from: 9, n: 0, tag: 1},
		{name: "fewer than none", words: nine, from: 1, n: -1, tag: 1},
		{name: "nine", words: nine, from: 0, n: 9, tag: 1},
		{name: "one farther than the last", words: nine, from: 2, n: 8, tag: 1},
		{name: "one behind the last", words: nine, from: 9, n: 1, tag: 1},
		{name: "from below 0", words: nine, from: -1, n: 1, tag: 1},
		{name: "from below 0 on", words: nine, from: -1, n: 2, tag: 1},
		{name: "from far on", words: nine, from: 1 << 32, n: 1, tag: 1},
		{name: "eight of seven", words: "1.1; 2.1; 3.1; 4.1; 5.1; 6.1; 7.1", from: 0, n: 8, tag: 1},
		{name: "to the monitor's tag", words: nine, from: 0, n: 1, tag: 0},
		{name: "to the monitor's tag, by who owns all", active: 3, words: nine, from: 0, n: 1, tag: 0},
		{name: "to a tag below 0", active: 3, words: nine, from: 0, n: 1, tag: -1},
		{name: "to one more than the greatest tag", active: 3, words: nine, from: 0, n: 1, tag: 4},
		{name: "to the greatest that a tag can be", active: 3, words: nine, from: 0, n: 1, tag: 6},
		{name: "to what may only be read", words: nine, from: 0, n: 1, tag: 3},
		{name: "to what may not be read", words: nine, from: 0, n: 1, tag: 2},
		{name: "of what may only be read", words: "5.3; 6.3", from: 0, n: 1, tag: 1},
		{name: "of what may not be read", words: "5.2; 6.2", from: 0, n: 2, tag: 1},
		{name: "of what may only be read, to itself", words: "5.3; 6.3", from: 0, n: 1, tag: 3},
		{name: "of the monitor's", words: "5.0; 6.0", from: 0, n: 1, tag: 1},
		{name: "of the monitor's, by who owns all", active: 3, words: "5.0; 6.0", from: 0, n: 2, tag: 1},
		{name: "down, by who is tainted", active: 1, words: "5.2; 6.2", from: 0, n: 1, tag: 1},
		{name: "up, by who is tainted", active: 1, words: "5.1; 6.1", from: 0, n: 1, tag: 2},
		{name: "up, by who is not", words: "5.1; 6.1", from: 0, n: 1, tag: 2},
	}
	for n, row := range rows {
		rows[n] = sameWords(row)
	}
	wantRetags(t, rows)
}

// One word that may not be written, at each place of a range, is enough; just outside of the range it does not matter.
func TestRetagSelfWithOneThatMayNot(t *testing.T) {
	for _, wrong := range []int64{0, 2, 3} {
		for from := int64(0); from <= 4; from++ {
			for n := int64(1); n <= 8; n++ {
				for place := range int64(12) {
					s := gated(t, 0)
					s.Memory.Words = slices.Repeat([]impl.Word{{Value: 9, Tag: 1}}, 12)
					s.Memory.Words[place].Tag = wrong
					want := notSo(s, 1)
					if place < from || place >= from+n {
						want = impl.CallResult{System: turned(s, func(s *impl.System) { s.Memory = retaggedPlainly(s.Memory, from, n, 1) })}
					}
					wantCall(t, fmt.Sprintf("%d words from %d, of tag %d at %d", n, from, wrong, place), impl.RetagSelf(s, from, n, 1), want)
				}
			}
		}
	}
}

// All ranges, and two beyond each end, of memories of 0 to 32 words, with all tags and some that are none.
func TestRetagSelfOfEachRange(t *testing.T) {
	for _, many := range []int{0, 1, 2, 7, 8, 9, 16, 31, 32} {
		for active := range int64(4) {
			s := gated(t, active)
			s.Memory.Words = slices.Clone(longMemory(many).Words)
			for place := range s.Memory.Words {
				s.Memory.Words[place].Tag = 1 + int64(place)/9%3
			}
			for from := int64(-2); from <= int64(many)+2; from++ {
				for n := int64(-1); n <= 10; n++ {
					wantAsked(t, s, asksRetag(from, n, 1+(from+n+2)%3))
				}
			}
			for tag := int64(-2); tag <= 8; tag++ {
				wantAsked(t, s, asksRetag(0, 1, tag))
				wantAsked(t, s, asksRetag(int64(many)-1, 1, tag))
			}
		}
	}
}

// Words are marked anew by who may modify both labels, what they were and what they become, and by nobody else.
func TestRetagSelfOfLabels(t *testing.T) {
	owners, things := labelsTold(t)
	done, not := 0, 0
	want := func(who, was, becomes impl.Label) {
		s := twoTags(t, who, was, becomes)
		got := impl.RetagSelf(s, 0, 2, 2)
		if impl.CanModify(who, was) && impl.CanModify(who, becomes) {
			done++
			wantCall(t, fmt.Sprintf("%v from %v to %v", who, was, becomes), got, impl.CallResult{System: turned(s, func(s *impl.System) { s.Memory = marked(t, "0.2; 0.2; 9.2") })})
		} else {
			not++
			wantCall(t, fmt.Sprintf("%v from %v to %v", who, was, becomes), got, notSo(s, 1))
		}
	}
	for _, was := range things {
		for _, becomes := range things {
			for _, who := range owners {
				want(who, was, becomes)
			}
		}
	}
	eachOwner(func(who impl.Label) {
		want(who, things[0], things[1])
		want(who, things[1], things[0])
	})
	if done < 50 || not < 50 {
		t.Errorf("%d done and %d not: too few", done, not)
	}
}

// The labels are asked, not the cache: what is known of them turns nothing but itself.
func TestMonitorAsksNoCache(t *testing.T) {
	for _, s := range monitored(t) {
		without := turned(s, func(s *impl.System) { s.Cache = impl.Cache{} })
		for _, a := range askings(s) {
			with, bare := a.ask(s), a.ask(without)
			bare.System.Cache = with.System.Cache
			if !sameCall(with, bare) {
				t.Errorf("%s of %v: %v with a cache, %v without one", a.name, s, with, bare)
			}
		}
	}
}

// Who may enter whom, in machineTables: of each domain a row, with a letter for each that it may or may not enter.
func TestEnterGateOfEachDomain(t *testing.T) {
	for active, row := range []string{"yynn", "nynn", "yyyn", "yyyy"} {
		for to, open := range row {
			for _, halted := range []bool{false, true} {
				for _, v := range []int64{0, 77, 65535} {
					s := gated(t, int64(active), impl.Gate{Domain: int64(to), Entry: 8})
					s.Contexts[to].Halted, s.Contexts[to].Pc = halted, 3
					want := notSo(s, 0)
					if open == 'y' {
						c := &want.System.Contexts[to]
						c.Regs[1], c.Pc, c.Halted = v, 8, false
					}
					wantCall(t, fmt.Sprintf("domain %d to %d with %d, halted %v", active, to, v, halted), impl.EnterGate(s, 0, v), want)
				}
			}
		}
	}
}

// The gate's place and v at their edges, with one gate, and with as many as may be.
func TestEnterGateEdges(t *testing.T) {
	three := []impl.Gate{{Domain: 1, Entry: 65535}, {Domain: 0, Entry: 31}, {Domain: 1, Entry: 0}}
	for _, row := range []struct {
		many    int
		gate, v int64
		open    bool
	}{
		{1, 0, 77, true}, {1, 1, 77, false}, {1, 2, 77, false}, {1, -1, 77, false},
		{3, 0, 77, true}, {3, 1, 77, true}, {3, 2, 77, true}, {3, 3, 77, false}, {3, -1, 77, false}, {3, -3, 77, false}, {3, 4, 77, false},
		{0, 0, 77, false}, {0, -1, 77, false}, {0, 1, 77, false},
		{2, 0, 0, true}, {2, 0, 1, true}, {2, 0, 65534, true}, {2, 0, 65535, true}, {2, 0, 65536, false}, {2, 0, -1, false},
		{2, 1, 0, true}, {2, 1, 65535, true}, {2, 1, 65536, false}, {2, 1, -1, false}, {2, 2, 65536, false},
		{3, 1 << 32, 77, false}, {3, 0, 1 << 32, false}, {3, -1 << 63, 0, false}, {3, 0, -1 << 63, false}, {3, 1<<63 - 1, 0, false}, {3, 0, 1<<63 - 1, false},
	} {
		s := gated(t, 0, three[:row.many]...)
		want := notSo(s, 0)
		if row.open {
			enter(&want.System, row.gate, row.v)
		}
		wantCall(t, fmt.Sprintf("gate %d of %d with %d", row.gate, row.many, row.v), impl.EnterGate(s, row.gate, row.v), want)
	}
}

// A gate to oneself is always open: register 1, Pc and Halted are as the chapter tells of who it leads to, all else stays.
func TestEnterGateToOneself(t *testing.T) {
	for active := range int64(4) {
		for _, halted := range []bool{false, true} {
			s := gated(t, active, impl.Gate{Domain: active, Entry: 12})
			s.Contexts[active].Halted, s.Contexts[active].Pc = halted, 5
			want := notSo(s, 0)
			c := &want.System.Contexts[active]
			c.Regs[1], c.Pc, c.Halted = 4321, 12, false
			wantCall(t, fmt.Sprintf("domain %d, halted %v", active, halted), impl.EnterGate(s, 0, 4321), want)
			for _, v := range []int64{-1, 65536} {
				wantCall(t, fmt.Sprintf("domain %d, halted %v, with %d", active, halted, v), impl.EnterGate(s, 0, v), notSo(s, 0))
			}
			// By a call the gate is told by register 1, which v is put over, and v by register 2, which stays.
			s.Contexts[active].Regs[1], s.Contexts[active].Regs[2] = 0, 4321
			want = notSo(s, 0)
			c = &want.System.Contexts[active]
			c.Regs[1], c.Pc, c.Halted = 4321, 12, false
			wantCall(t, fmt.Sprintf("domain %d, halted %v, by a call", active, halted), impl.MakeCall(s, impl.CallGate), want)
		}
	}
}

// A gate leads up to one who is not below who enters, level by level, with stars the lowest.
func TestEnterGateOfLabels(t *testing.T) {
	owners, _ := labelsTold(t)
	open, shut := 0, 0
	want := func(from, to impl.Label) {
		x := impl.AddDomain(impl.AddDomain(impl.AddTag(impl.Tables{}, label(t, "1111")).Tables, from).Tables, to).Tables
		s := systemOf(x)
		s.Gates, s.Contexts[1].Halted = []impl.Gate{{Domain: 1, Entry: 8}}, true
		if impl.IsBelow(from, to) {
			open++
			wantCall(t, fmt.Sprintf("%v to %v", from, to), impl.EnterGate(s, 0, 77), impl.CallResult{System: turned(s, func(s *impl.System) { enter(s, 0, 77) })})
		} else {
			shut++
			wantCall(t, fmt.Sprintf("%v to %v", from, to), impl.EnterGate(s, 0, 77), notSo(s, 0))
		}
	}
	eachOwner(func(one impl.Label) {
		for _, other := range owners {
			want(one, other)
			want(other, one)
		}
		want(one, one)
	})
	if open < 1000 || shut < 1000 {
		t.Errorf("%d open and %d shut: too few", open, shut)
	}
}

// Who enters can't tell a gate that is open from one that is not, or from none: what is said and all of its own is the same.
func TestGateTellsNothing(t *testing.T) {
	for active := range int64(4) {
		for to := range int64(4) {
			if to == active {
				continue
			}
			s := gated(t, active, impl.Gate{Domain: to, Entry: 8})
			s.Contexts[active].Regs[1], s.Contexts[active].Regs[2] = 0, 77
			s.Contexts[to].Halted = true
			none := turned(s, func(s *impl.System) { s.Gates = nil })
			for _, a := range []asking{asksGate(0, 77), asksGate(0, 65536), asksGate(1, 77), asksCall(impl.CallGate)} {
				with, without := a.ask(s), a.ask(none)
				if with.Said != 0 || without.Said != 0 || !impl.SameContexts(with.System.Contexts[active], s.Contexts[active]) || !impl.SameContexts(without.System.Contexts[active], s.Contexts[active]) {
					t.Errorf("%s: domain %d to %d: %v, and %v without a gate", a.name, active, to, with, without)
				}
				// All but the context behind the gate is as it was, too.
				with.System.Contexts[to] = s.Contexts[to]
				if !sameSystem(with.System, s) || !sameSystem(without.System, none) {
					t.Errorf("%s: domain %d to %d turned something else", a.name, active, to)
				}
			}
		}
	}
}

// callRow is a call of a domain with these in its registers from 0 on; wanted turns what is turned.
type callRow struct {
	name   string
	active int64
	regs   []int64
	call   int64
	said   int64
	wanted func(s *impl.System)
}

func TestMakeCallRows(t *testing.T) {
	says := func(said int64) func(s *impl.System) { return func(s *impl.System) { who(s).Regs[0] = said } }
	words := func(text string) func(s *impl.System) {
		return func(s *impl.System) {
			s.Memory = marked(t, text)
			who(s).Regs[0] = 0
		}
	}
	labels := func(text, lines string) func(s *impl.System) {
		return func(s *impl.System) {
			s.Tables, s.Cache = tables(t, text), cache(t, lines)
			who(s).Regs[0] = 0
		}
	}
	through := func(gate, v int64) func(s *impl.System) { return func(s *impl.System) { enter(s, gate, v) } }
	same := "2:1111 2:1311 1:1*11 1:0000 1:**** | 0 1 3 | 0 1 2 4"
	for _, row := range []callRow{
		{"taint", 0, []int64{9, 2}, 1, 0, labels("1:1111 3:1311 1:1*11 1:0000 1:**** | 0 1 3 | 1 1 2 4", "6: 115 217 317 337")},
		{"taint that taints nothing", 0, []int64{9, 1}, 1, 0, labels(same, "6: 115 217 317 337")},
		{"taint of one who is another", 1, []int64{65535, 2, 8, 8}, 1, 0, labels(same, "6: 017 217 317 020 337")},
		{"taint by the monitor's tag", 0, []int64{9, 0}, 1, 1, says(1)},
		{"taint by one more than the greatest", 0, []int64{0, 4}, 1, 1, says(1)},
		{"taint by the most", 0, []int64{65535, 65535}, 1, 1, says(1)},
		{"retag", 0, []int64{9, 4, 1, 1}, 2, 0, words("1.1; 2.2; 3.3; 4.0; 0.1; 6.2")},
		{"retag two", 2, []int64{9, 0, 2, 1}, 2, 0, words("0.1; 0.1; 3.3; 4.0; 5.1; 6.2")},
		{"retag to the last", 2, []int64{0, 4, 2, 2}, 2, 0, words("1.1; 2.2; 3.3; 4.0; 0.2; 0.2")},
		{"retag farther", 2, []int64{0, 5, 2, 2}, 2, 1, says(1)},
		{"retag none", 0, []int64{9, 0, 0, 1}, 2, 1, says(1)},
		{"retag the most", 3, []int64{9, 65535, 65535, 65535}, 2, 1, says(1)},
		{"retag what may not be", 0, []int64{9, 0, 2, 1}, 2, 1, says(1)},
		{"retag to what may not be", 0, []int64{9, 0, 1, 2}, 2, 1, says(1)},
		{"retag to the monitor's", 3, []int64{9, 0, 1, 0}, 2, 1, says(1)},
		{"gate", 0, []int64{9, 0, 77, 5}, 3, 0, through(0, 77)},
		{"gate with 0", 0, []int64{9, 0, 0, 5}, 3, 0, through(0, 0)},
		{"gate with the most", 0, []int64{1, 0, 65535, 5}, 3, 0, through(0, 65535)},
		{"the last gate", 0, []int64{9, 2, 65535, 5}, 3, 0, through(2, 65535)},
		{"a gate to one who is not above", 0, []int64{9, 1, 77, 5}, 3, 0, nothing},
		{"one behind the last gate", 0, []int64{9, 3, 77, 5}, 3, 0, nothing},
		{"a gate far behind", 0, []int64{9, 65535, 77, 5}, 3, 0, nothing},
		{"a gate to oneself", 0, []int64{9, 2, 3, 5}, 3, 0, through(2, 3)},
		{"yield", 0, []int64{9, 1, 1, 1}, 4, 0, nothing},
		{"yield of another", 3, []int64{1, 2, 3, 4}, 4, 0, nothing},
		{"call 0", 0, []int64{9, 1, 1, 1}, 0, 1, says(1)},
		{"call 5", 0, []int64{9, 1, 1, 1}, 5, 1, says(1)},
		{"call 5 where 1 was said", 0, []int64{1, 1, 1, 1}, 5, 1, nothing},
		{"call 5 of another", 2, []int64{0, 0, 0, 0}, 5, 1, says(1)},
		{"call 63", 0, []int64{0, 1, 1, 1}, 63, 1, says(1)},
		{"call -1", 0, []int64{0, 1, 1, 1}, -1, 1, says(1)},
		{"a call that is 1 in its low bits", 0, []int64{0, 1, 1, 1}, 1<<32 + 1, 1, says(1)},
		{"the least call", 0, []int64{0, 1, 1, 1}, -1 << 63, 1, says(1)},
		{"the greatest call", 0, []int64{0, 1, 1, 1}, 1<<63 - 1, 1, says(1)},
	} {
		s := gated(t, row.active, impl.Gate{Domain: 1, Entry: 8}, impl.Gate{Domain: 3, Entry: 9}, impl.Gate{Domain: 0, Entry: 65535})
		copy(who(&s).Regs, row.regs)
		want := impl.CallResult{Said: row.said, System: turned(s, row.wanted)}
		wantCall(t, row.name, impl.MakeCall(s, row.call), want)
		// One who is halted is answered all the same, and stays so, but where a gate to itself is open.
		s.Contexts[row.active].Halted = true
		wantCall(t, row.name+", halted", impl.MakeCall(s, row.call), plainCall(s, row.call))
	}
}

// What a call says is put into register 0 whatever was there, and nowhere else; of a gate and a yield it is not.
func TestMakeCallAndRegisterZero(t *testing.T) {
	for _, zero := range []int64{0, 1, 2, 9, 65535} {
		for _, row := range []struct {
			call int64
			regs []int64
			want int64
		}{
			{1, []int64{1}, 0}, {1, []int64{0}, 1}, {2, []int64{0, 1, 1}, 0}, {2, []int64{0, 9, 1}, 1}, {0, nil, 1}, {5, nil, 1},
			{3, []int64{0, 7}, zero}, {3, []int64{1, 7}, zero}, {3, []int64{2, 7}, zero}, {3, []int64{9, 7}, zero}, {4, nil, zero},
		} {
			s := gated(t, 0, impl.Gate{Domain: 1, Entry: 8}, impl.Gate{Domain: 3, Entry: 9}, impl.Gate{Domain: 0, Entry: 7})
			who(&s).Regs[0] = zero
			copy(who(&s).Regs[1:], row.regs)
			got := impl.MakeCall(s, row.call)
			if now := got.System.Contexts[0].Regs; now[0] != row.want || !slices.Equal(now[2:], who(&s).Regs[2:]) {
				t.Errorf("call %d with %v and %d in register 0: %v; want %d there", row.call, row.regs, zero, now, row.want)
			}
			wantCall(t, "a call", got, plainCall(s, row.call))
		}
	}
}

// A call is what the function that it names answers with the registers, with what is said in register 0.
func TestMakeCallIsWhatItNames(t *testing.T) {
	for _, s := range monitored(t) {
		r := who(&s).Regs
		taint, retag, gate := impl.TaintSelf(s, r[1]), impl.RetagSelf(s, r[1], r[2], r[3]), impl.EnterGate(s, r[1], r[2])
		who(&taint.System).Regs[0], who(&retag.System).Regs[0] = taint.Said, retag.Said
		wantCall(t, "taint", impl.MakeCall(s, impl.CallTaint), taint)
		wantCall(t, "retag", impl.MakeCall(s, impl.CallRetag), retag)
		wantCall(t, "gate", impl.MakeCall(s, impl.CallGate), gate)
		wantCall(t, "yield", impl.MakeCall(s, impl.CallYield), impl.CallResult{System: s})
	}
}

func TestMonitorOfManySystems(t *testing.T) {
	for _, s := range monitored(t) {
		for _, a := range askings(s) {
			wantAsked(t, s, a)
		}
	}
}

// wantGuarded asks what no call turns, whatever it is: what is the others', but through a gate; who is active, the device, what
// went out, gates and tags; and of words what who is active may not modify.
func wantGuarded(t *testing.T, what string, s, now impl.System) {
	t.Helper()
	kept := func(s impl.System) string {
		h := holdingOf(s.Tables)
		return fmt.Sprint(h.tags, slices.Delete(slices.Clone(h.domains), int(s.Active), int(s.Active)+1), s.Active, s.Device, s.Out, s.Gates, s.Cache.Size, plain(s.Cache).flush(s.Active, -1))
	}
	if kept(s) != kept(now) {
		t.Errorf("%s: of %v it made %v", what, s, now)
	}
	if was, is := holdingOf(s.Tables).domains[s.Active], holdingOf(now.Tables).domains[s.Active]; !impl.IsBelow(was, is) || !seesNoLess(was, is) {
		t.Errorf("%s: the label %v became %v", what, was, is)
	}
	for place, w := range now.Memory.Words {
		if w != s.Memory.Words[place] && (w.Value != 0 || !mayWrite(s, w.Tag) || !mayWrite(s, s.Memory.Words[place].Tag)) {
			t.Errorf("%s: the word %v became %v", what, s.Memory.Words[place], w)
		}
	}
	for domain, c := range now.Contexts {
		if int64(domain) != s.Active && !impl.SameContexts(c, s.Contexts[domain]) && !isOpen(s, s.Active, int64(domain)) {
			t.Errorf("%s: the context of domain %d became %v", what, domain, c)
		}
	}
}

// anyAsking is one that is often right, for a system of which something may be asked.
func anyAsking(source *rand.Rand, s *impl.System) asking {
	words := int64(len(s.Memory.Words))
	tag := source.Int63n(int64(len(s.Tables.Tags))+3) - 1
	from, n := source.Int63n(words+2)-1, source.Int63n(11)-1
	gate, v := source.Int63n(5)-1, []int64{0, 65535, 65536, -1, 77}[source.Intn(5)]
	switch source.Intn(5) {
	case 0:
		return asksTaint(tag)
	case 1:
		return asksRetag(from, n, tag)
	case 2:
		return asksGate(gate, v)
	}
	copy(who(s).Regs[1:], [][]int64{{max(0, tag)}, {max(0, from), max(0, n), max(0, tag)}, {max(0, gate), 77}}[source.Intn(3)])
	return asksCall(source.Int63n(7) - 1)
}

// Calls one behind the other, of systems of all kinds, each domain in turn.
func TestMonitorAgainAndAgain(t *testing.T) {
	source, all := rand.New(rand.NewSource(9)), runnable(t)
	turns := map[string]int{}
	for range 3000 {
		s := cloneSystem(anySystem(t, source, all))
		for range 8 {
			s.Active = source.Int63n(int64(len(s.Contexts)))
			a := anyAsking(source, &s)
			got := wantAsked(t, s, a)
			if t.Failed() {
				return
			}
			wantGuarded(t, a.name, s, got.System)
			name, _, _ := strings.Cut(a.name, "(")
			turns[fmt.Sprint(name, " ", got.Said, " ", !sameSystem(s, got.System))]++
			s = got.System
		}
	}
	for _, turn := range []string{"TaintSelf 0 true", "TaintSelf 0 false", "TaintSelf 1 false", "RetagSelf 0 true", "RetagSelf 1 false", "EnterGate 0 true", "EnterGate 0 false", "MakeCall 0 true", "MakeCall 0 false", "MakeCall 1 true"} {
		if turns[turn] < 20 {
			t.Errorf("too few that are %s: %v", turn, turns)
		}
	}
}

// What a program calls for: a step that is OutCall, and then the call that it tells.
func TestMonitorServesAProgram(t *testing.T) {
	s := system(t, allOfZero, "set 1 0 2.1; call 0 0 1.1; set 1 0 0.1; set 2 0 63.1; call 0 0 3.1")
	for range 5 {
		got := impl.TryStep(s)
		if got.Kind == impl.OutMiss {
			t.Fatalf("a miss of %v", s)
		}
		s = got.System
		if got.Kind == impl.OutCall {
			s = impl.MakeCall(s, got.Call).System
			// The taint made the cache forget what it knew of its word.
			s.Cache = impl.Cache{Size: 1, Lines: []impl.Line{{Domain: 0, Tag: 1, Perm: impl.PermOf(s.Tables, 0, 1).Value}}}
		}
	}
	wantLabel(t, "who was tainted", impl.DomainLabel(s.Tables, 0), label(t, "1311"))
	if c := s.Contexts[0]; c.Pc != 5 || c.Regs[0] != 0 || c.Regs[1] != 0 || c.Regs[2] != 63 {
		t.Errorf("who called is %v", c)
	}
	if c := s.Contexts[1]; c.Pc != 8 || c.Regs[1] != 63 || c.Regs[0] != 100 {
		t.Errorf("who was entered is %v", c)
	}
}
