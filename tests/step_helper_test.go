package tests

import (
	"fmt"
	"math"
	"slices"
	"testing"

	"loop.example/g00530/impl"
)

// lineTold is what the labels tell of who is active and a tag, of which there is one.
func lineTold(s impl.System, tag int64) impl.Line {
	l := impl.Line{Domain: s.Active, Tag: tag}
	if h := holdingOf(s.Tables); tag > 0 {
		l.Perm = permTold(h.domains[s.Active], h.tags[tag-1])
	}
	return l
}

// plainWhole tells as plainly as can be what a step of the whole is, for a system without a fault and a pick from 0 on.
func plainWhole(s impl.System, pick int64) impl.WholeResult {
	now := cloneSystem(s)
	step := plainStep(now)
	misses := int64(0)
	for ; step.Kind == impl.OutMiss; misses++ {
		now.Cache.Lines = append(now.Cache.Lines, lineTold(now, step.Tag))
		step = plainStep(now)
	}
	now = step.System
	switch step.Kind {
	case impl.OutCall:
		now = plainCall(now, step.Call).System
	case impl.OutDenied:
		who(&now).Halted = true
	}
	for int64(len(now.Cache.Lines)) > now.Cache.Size {
		now.Cache = plain(now.Cache).evict(pick).cache()
	}
	return impl.WholeResult{Kind: step.Kind, Misses: misses, System: now}
}

func plainFill(s impl.System, tag, pick int64) impl.CallResult {
	now, l := cloneSystem(s), lineTold(s, tag)
	now.Cache = plain(now.Cache).fill(l, pick).cache()
	return impl.CallResult{Said: l.Perm, System: now}
}

// asksFill is told a code plainly, too, where a pick is below 0 or a tag is none.
func asksFill(tag, pick int64) asking {
	return asking{
		fmt.Sprintf("FillFor(%d, %d)", tag, pick),
		func(s impl.System) impl.CallResult { return impl.FillFor(s, tag, pick) },
		func(s impl.System) impl.CallResult {
			switch {
			case pick < 0:
				return impl.CallResult{Code: impl.ErrRange}
			case tag < 0 || tag > int64(len(s.Tables.Tags)):
				return impl.CallResult{Code: impl.ErrNone}
			}
			return plainFill(s, tag, pick)
		},
	}
}

func sameWhole(a, b impl.WholeResult) bool {
	return a.Code == b.Code && a.Kind == b.Kind && a.Misses == b.Misses && sameSystem(a.System, b.System)
}

// wantWhole also asks that nothing wrong is left behind, and that no step asks more than twice.
func wantWhole(t *testing.T, what string, got, want impl.WholeResult) {
	t.Helper()
	if got.Code != want.Code || got.Kind != want.Kind || got.Misses != want.Misses {
		t.Errorf("%s: code %d, %s, %d misses; want code %d, %s, %d misses", what, got.Code, kindTold(got.Kind), got.Misses, want.Code, kindTold(want.Kind), want.Misses)
	}
	if !sameSystem(got.System, want.System) {
		t.Errorf("%s: the system is %v; want %v", what, got.System, want.System)
	}
	if code := impl.SystemFault(got.System); code != impl.OK {
		t.Errorf("%s: the fault %d is left behind", what, code)
	}
	if got.Misses < 0 || got.Misses > 2 {
		t.Errorf("%s: it asked %d times", what, got.Misses)
	}
}

// wantWholeOf asks and holds the answer against what is told plainly.
func wantWholeOf(t *testing.T, s impl.System, pick int64) impl.WholeResult {
	t.Helper()
	got := impl.StepSystem(s, pick)
	if want := plainWhole(s, pick); !sameWhole(got, want) || got.Misses > 2 || impl.SystemFault(got.System) != impl.OK {
		wantWhole(t, fmt.Sprintf("a step of %v with a pick of %d", s, pick), got, want)
	}
	return got
}

// wantNoWhole and wantNoSystem also ask that all but the code is zero.
func wantNoWhole(t *testing.T, what string, got impl.WholeResult, code int64) {
	t.Helper()
	if !sameWhole(got, impl.WholeResult{Code: code}) {
		t.Errorf("%s: %v; want code %d and all else zero", what, got, code)
	}
}

func wantNoSystem(t *testing.T, what string, got impl.SystemResult, code int64) {
	t.Helper()
	if got.Code != code || !sameSystem(got.System, impl.System{}) {
		t.Errorf("%s: %v; want code %d and all else zero", what, got, code)
	}
}

func wantSystem(t *testing.T, what string, got impl.SystemResult, want impl.System) {
	t.Helper()
	if got.Code != impl.OK || !sameSystem(got.System, want) {
		t.Errorf("%s: code %d, %v; want %v", what, got.Code, got.System, want)
	}
	if code := impl.SystemFault(got.System); code != impl.OK {
		t.Errorf("%s: the fault %d is left behind", what, code)
	}
}

// anew is a system as it is made: of its tables, words, device, size and gates, with nothing done yet.
func anew(x impl.Tables, words []impl.Word, device, size int64, gates []impl.Gate) impl.System {
	s := impl.System{Tables: x, Memory: impl.Memory{Words: words}, Cache: impl.Cache{Size: size}, Device: device, Gates: gates}
	for range x.Domains {
		s.Contexts = append(s.Contexts, impl.Context{Regs: make([]int64, 8)})
	}
	return s
}

// stepPicks are the first and the last place of caches with one line more than they have room for, with two more, and beyond.
func stepPicks() []int64 {
	return []int64{0, 1, 2, 3, 5, 6, 7, 8, 9, 55, 56, math.MaxInt64}
}

// wholes are systems without a fault, with steps of each kind, with as little and as much in their caches as may be.
func wholes(t *testing.T) []impl.System {
	t.Helper()
	list := append(goodSystems(t), stepping(t)...)
	for active := range int64(4) {
		for _, lines := range []string{"0:", "1:", "1: 115", "2: 017 217", "6:", "6: 017 115 217 317 020 337"} {
			s := gated(t, active, impl.Gate{Domain: 1, Entry: 8}, impl.Gate{Domain: active, Entry: 2})
			s.Cache, s.Device = cache(t, lines), 1+active%3
			for call := range int64(6) {
				list = append(list, turned(s, func(s *impl.System) {
					s.Memory.Words[0].Value = 8*4096 + call
					copy(who(s).Regs, [][]int64{{9, 2, 1, 1}, {9, 0, 1, 1}, {9, 1, 77, 2}}[call%3])
				}))
			}
			list = append(list, turned(s, func(s *impl.System) { who(s).Halted = true }))
		}
	}
	return list
}

// sevenTags has six tags and domain 0 who owns all, so that it may all with six of them; five of its lines, and one of another.
func sevenTags(t *testing.T, words string) impl.System {
	t.Helper()
	s := systemOf(tables(t, "1:1111 1:1311 1:0000 1:3333 1:0123 1:3210 1:**** 1:2222 | 0 1 2 3 4 5 | 6 7"))
	s.Memory, s.Device = marked(t, words), 6
	s.Cache = cache(t, "6: 000 037 047 057 067 100")
	return s
}

// turning turns one thing of a system, whatever it is then.
type turning struct {
	name string
	turn func(s *impl.System)
}

// turnings are all things in which a system of machineTables can differ from another one, but the cache.
func turnings(base impl.System) []turning {
	list := []turning{
		{"active", func(s *impl.System) { s.Active++ }},
		{"active, below 0", func(s *impl.System) { s.Active = -1 }},
		{"device", func(s *impl.System) { s.Device++ }},
		{"no device", func(s *impl.System) { s.Device = 0 }},
	}
	add := func(turn func(s *impl.System), name ...any) {
		list = append(list, turning{fmt.Sprintln(name...), turn})
	}
	for place, slot := range base.Tables.Registry.Slots {
		add(func(s *impl.System) { s.Tables.Registry.Slots[place].Count++ }, "count of slot", place)
		add(func(s *impl.System) { s.Tables.Registry.Slots[place].Label = impl.Label{} }, "no label of slot", place)
		for category := range slot.Label.Levels {
			add(func(s *impl.System) { s.Tables.Registry.Slots[place].Label.Levels[category]++ }, "level of slot", place, category)
		}
	}
	for place := range base.Tables.Tags {
		add(func(s *impl.System) { s.Tables.Tags[place]++ }, "tag", place)
	}
	for place := range base.Tables.Domains {
		add(func(s *impl.System) { s.Tables.Domains[place]++ }, "domain", place)
	}
	for place := range base.Memory.Words {
		add(func(s *impl.System) { s.Memory.Words[place].Value++ }, "value of word", place)
		add(func(s *impl.System) { s.Memory.Words[place].Tag++ }, "tag of word", place)
	}
	for domain := range base.Contexts {
		for n := range base.Contexts[domain].Regs {
			add(func(s *impl.System) { s.Contexts[domain].Regs[n]++ }, "register", n, "of domain", domain)
		}
		add(func(s *impl.System) { s.Contexts[domain].Regs = s.Contexts[domain].Regs[:7] }, "registers of domain", domain)
		add(func(s *impl.System) { s.Contexts[domain].Pc++ }, "Pc of domain", domain)
		add(func(s *impl.System) { s.Contexts[domain].Halted = !s.Contexts[domain].Halted }, "halted", domain)
	}
	for place := range base.Out {
		add(func(s *impl.System) { s.Out[place]-- }, "out", place)
	}
	for place := range base.Gates {
		add(func(s *impl.System) { s.Gates[place].Domain++ }, "domain of gate", place)
		add(func(s *impl.System) { s.Gates[place].Entry++ }, "entry of gate", place)
	}
	return append(list, lengthTurnings()...)
}

// lengthTurnings make one list of a system longer or shorter each.
func lengthTurnings() []turning {
	return []turning{
		{"a slot more", func(s *impl.System) { s.Tables.Registry.Slots = append(s.Tables.Registry.Slots, impl.Slot{}) }},
		{"a slot fewer", func(s *impl.System) { s.Tables.Registry.Slots = s.Tables.Registry.Slots[1:] }},
		{"a tag more", func(s *impl.System) { s.Tables.Tags = append(s.Tables.Tags, 0) }},
		{"a tag fewer", func(s *impl.System) { s.Tables.Tags = s.Tables.Tags[:len(s.Tables.Tags)-1] }},
		{"a domain more", func(s *impl.System) { s.Tables.Domains = append(s.Tables.Domains, 0) }},
		{"a domain fewer", func(s *impl.System) { s.Tables.Domains = s.Tables.Domains[:len(s.Tables.Domains)-1] }},
		{"a word more", func(s *impl.System) { s.Memory.Words = append(s.Memory.Words, impl.Word{}) }},
		{"a word fewer", func(s *impl.System) { s.Memory.Words = s.Memory.Words[:len(s.Memory.Words)-1] }},
		{"a context more", func(s *impl.System) { s.Contexts = append(s.Contexts, impl.Context{}) }},
		{"a context fewer", func(s *impl.System) { s.Contexts = s.Contexts[:len(s.Contexts)-1] }},
		{"one more out", func(s *impl.System) { s.Out = append(s.Out, 0) }},
		{"one fewer out", func(s *impl.System) { s.Out = s.Out[:len(s.Out)-1] }},
		{"out in another order", func(s *impl.System) { slices.Reverse(s.Out) }},
		{"a gate more", func(s *impl.System) { s.Gates = append(s.Gates, impl.Gate{}) }},
		{"a gate fewer", func(s *impl.System) { s.Gates = s.Gates[:len(s.Gates)-1] }},
		{"no slots", func(s *impl.System) { s.Tables.Registry.Slots = nil }},
		{"no tags", func(s *impl.System) { s.Tables.Tags = nil }},
		{"no domains", func(s *impl.System) { s.Tables.Domains = nil }},
		{"no words", func(s *impl.System) { s.Memory.Words = nil }},
		{"no contexts", func(s *impl.System) { s.Contexts = nil }},
		{"no out", func(s *impl.System) { s.Out = nil }},
		{"no gates", func(s *impl.System) { s.Gates = nil }},
	}
}
