package tests

import (
	"fmt"
	"math"
	"slices"
	"testing"

	"loop.example/g00530/impl"
)

// asking is a call with all that it is asked with, and what it is told plainly for a system without a fault.
type asking struct {
	name string
	ask  func(s impl.System) impl.CallResult
	told func(s impl.System) impl.CallResult
}

func asksTaint(tag int64) asking {
	return asking{
		fmt.Sprintf("TaintSelf(%d)", tag),
		func(s impl.System) impl.CallResult { return impl.TaintSelf(s, tag) },
		func(s impl.System) impl.CallResult { return plainTaint(s, tag) },
	}
}

func asksRetag(from, n, tag int64) asking {
	return asking{
		fmt.Sprintf("RetagSelf(%d, %d, %d)", from, n, tag),
		func(s impl.System) impl.CallResult { return impl.RetagSelf(s, from, n, tag) },
		func(s impl.System) impl.CallResult { return plainRetag(s, from, n, tag) },
	}
}

func asksGate(gate, v int64) asking {
	return asking{
		fmt.Sprintf("EnterGate(%d, %d)", gate, v),
		func(s impl.System) impl.CallResult { return impl.EnterGate(s, gate, v) },
		func(s impl.System) impl.CallResult { return plainEnter(s, gate, v) },
	}
}

func asksCall(call int64) asking {
	return asking{
		fmt.Sprintf("MakeCall(%d)", call),
		func(s impl.System) impl.CallResult { return impl.MakeCall(s, call) },
		func(s impl.System) impl.CallResult { return plainCall(s, call) },
	}
}

// notSo is a call that was answered by nothing but what is said.
func notSo(s impl.System, said int64) impl.CallResult {
	return impl.CallResult{Said: said, System: cloneSystem(s)}
}

func plainTaint(s impl.System, tag int64) impl.CallResult {
	tags, now := holdingOf(s.Tables).tags, cloneSystem(s)
	if tag < 1 || tag > int64(len(tags)) {
		return notSo(s, 1)
	}
	x, _, _ := plainTables{now.Tables.Registry.Slots, now.Tables.Tags, now.Tables.Domains}.taint(s.Active, tags[tag-1])
	now.Tables = x.tables()
	now.Cache = plain(now.Cache).flush(s.Active, -1).cache()
	return impl.CallResult{System: now}
}

// mayWrite tells by levels whether who is active may write words of a tag, of which there may be none.
func mayWrite(s impl.System, tag int64) bool {
	h := holdingOf(s.Tables)
	return tag >= 1 && tag <= int64(len(h.tags)) && permTold(h.domains[s.Active], h.tags[tag-1]) == 7
}

func plainRetag(s impl.System, from, n, tag int64) impl.CallResult {
	many := int64(len(s.Memory.Words))
	if n < 1 || n > 8 || from < 0 || from > many-n || !mayWrite(s, tag) {
		return notSo(s, 1)
	}
	for place := from; place < from+n; place++ {
		if !mayWrite(s, s.Memory.Words[place].Tag) {
			return notSo(s, 1)
		}
	}
	now := cloneSystem(s)
	now.Memory = retaggedPlainly(now.Memory, from, n, tag)
	return impl.CallResult{System: now}
}

// isOpen tells by levels whether a domain may come through a gate to another one.
func isOpen(s impl.System, from, to int64) bool {
	h := holdingOf(s.Tables)
	for category, level := range h.domains[from].Levels {
		if level > h.domains[to].Levels[category] {
			return false
		}
	}
	return true
}

// enter turns who is behind a gate that is open.
func enter(s *impl.System, gate, v int64) {
	c := &s.Contexts[s.Gates[gate].Domain]
	c.Regs[1], c.Pc, c.Halted = v, s.Gates[gate].Entry, false
}

func plainEnter(s impl.System, gate, v int64) impl.CallResult {
	if gate < 0 || gate >= int64(len(s.Gates)) || v < 0 || v > 65535 || !isOpen(s, s.Active, s.Gates[gate].Domain) {
		return notSo(s, 0)
	}
	return impl.CallResult{System: turned(s, func(s *impl.System) { enter(s, gate, v) })}
}

func plainCall(s impl.System, call int64) impl.CallResult {
	r := s.Contexts[s.Active].Regs
	answer := notSo(s, 1)
	switch call {
	case 1:
		answer = plainTaint(s, r[1])
	case 2:
		answer = plainRetag(s, r[1], r[2], r[3])
	case 3:
		return plainEnter(s, r[1], r[2])
	case 4:
		return notSo(s, 0)
	}
	who(&answer.System).Regs[0] = answer.Said
	return answer
}

// askings are all calls with what lies at the edges of a system and around them, or far off.
func askings(s impl.System) []asking {
	tags, words, gates := int64(len(s.Tables.Tags)), int64(len(s.Memory.Words)), int64(len(s.Gates))
	list := []asking{}
	for _, tag := range []int64{0, 1, tags, tags + 1, -1, 7, math.MinInt64, math.MaxInt64} {
		list = append(list, asksTaint(tag))
		for _, n := range []int64{1, 8} {
			list = append(list, asksRetag(0, n, tag), asksRetag(words-n, n, tag))
		}
	}
	for _, n := range []int64{0, 1, 2, 8, 9, -1, math.MinInt64, math.MaxInt64} {
		for _, from := range []int64{0, 1, words - n, words - n + 1, -1, math.MinInt64, math.MaxInt64, math.MaxInt64 - 7} {
			list = append(list, asksRetag(from, n, 1), asksRetag(from, n, tags))
		}
	}
	for _, gate := range []int64{0, 1, gates - 1, gates, -1, math.MinInt64, math.MaxInt64} {
		for _, v := range []int64{0, 77, 65535, 65536, -1, math.MinInt64, math.MaxInt64} {
			list = append(list, asksGate(gate, v))
		}
	}
	for call := int64(-1); call <= 6; call++ {
		list = append(list, asksCall(call))
	}
	return append(list, asksCall(63), asksCall(math.MinInt64), asksCall(math.MaxInt64), asksCall(1<<32+1))
}

// gated has machineTables, a gate to who is asked for by each place, and words of all tags.
func gated(t *testing.T, active int64, gates ...impl.Gate) impl.System {
	t.Helper()
	s := system(t, "6: 017 115 217 317 020 337", "1.1; 2.2; 3.3; 4.0; 5.1; 6.2")
	s.Active, s.Gates = active, gates
	return s
}

// monitored are systems without a fault of which the monitor is asked: each domain active, and registers that ask for much.
func monitored(t *testing.T) []impl.System {
	t.Helper()
	list := goodSystems(t)
	for active := range int64(4) {
		s := gated(t, active, impl.Gate{Domain: 1, Entry: 8}, impl.Gate{Domain: active, Entry: 65535}, impl.Gate{Domain: 3 - active})
		for _, r := range [][]int64{{0, 0, 1, 1}, {9, 1, 1, 2}, {9, 2, 65535, 0}, {65535, 3, 8, 3}, {1, 4, 1, 1}, {0, 1, 77, 1}, {5, 65535, 65535, 65535}, {7, 5, 1, 2}} {
			list = append(list, turned(s, func(s *impl.System) { copy(who(s).Regs, r) }))
		}
		long := turned(s, func(s *impl.System) {
			s.Memory.Words = slices.Repeat([]impl.Word{{Value: 9, Tag: 1}, {Value: 8, Tag: 2}}, 16)
			s.Contexts[active].Halted, s.Contexts[3-active].Halted = true, true
		})
		list = append(list, long, turned(long, func(s *impl.System) {
			for place := range s.Memory.Words {
				s.Memory.Words[place].Tag = 1 + int64(place)/16
			}
		}))
	}
	return list
}

func sameCall(a, b impl.CallResult) bool {
	return a.Code == b.Code && a.Said == b.Said && sameSystem(a.System, b.System)
}

// wantCall also asks that nothing wrong is left behind.
func wantCall(t *testing.T, what string, got, want impl.CallResult) {
	t.Helper()
	if got.Code != want.Code || got.Said != want.Said {
		t.Errorf("%s: code %d, said %d; want code %d, said %d", what, got.Code, got.Said, want.Code, want.Said)
	}
	if !sameSystem(got.System, want.System) {
		t.Errorf("%s: the system is %v; want %v", what, got.System, want.System)
	}
	if code := impl.SystemFault(got.System); code != impl.OK {
		t.Errorf("%s: the fault %d is left behind", what, code)
	}
}

// wantAsked asks and holds the answer against what is told plainly.
func wantAsked(t *testing.T, s impl.System, a asking) impl.CallResult {
	t.Helper()
	got := a.ask(s)
	if want := a.told(s); !sameCall(got, want) || impl.SystemFault(got.System) != impl.OK {
		wantCall(t, fmt.Sprintf("%s of %v", a.name, s), got, want)
	}
	return got
}

// wantNoCall also asks that all but the code is zero.
func wantNoCall(t *testing.T, what string, got impl.CallResult, code int64) {
	t.Helper()
	if !sameCall(got, impl.CallResult{Code: code}) {
		t.Errorf("%s: %v; want code %d and all else zero", what, got, code)
	}
}
