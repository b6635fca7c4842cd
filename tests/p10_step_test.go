package tests

// Promise 10: a step asks twice at most for what the cache does not know, and leaves nothing wrong behind; what was filled for
// is known then, as the labels tell it. And promises 8 and 9, where they are kept by a step of the whole.

import (
	"fmt"
	"math"
	"math/rand"
	"slices"
	"testing"

	"loop.example/g00530/impl"
)

// wholeRow is a step of domain 0, where nothing else is set: the kind, the misses and the cache behind it are told, and what
// else turns.
type wholeRow struct {
	name         string
	lines, words string
	set          func(s *impl.System)
	pick         int64
	kind, misses int64
	after        string
	turns        func(s *impl.System)
}

func wantWholeRows(t *testing.T, rows []wholeRow) {
	t.Helper()
	for _, row := range rows {
		s := system(t, row.lines, row.words)
		if row.set != nil {
			row.set(&s)
		}
		wantRow(t, row, s)
	}
}

func wantRow(t *testing.T, row wholeRow, s impl.System) {
	t.Helper()
	if code := impl.SystemFault(s); code != impl.OK {
		t.Fatalf("%s: the fault %d", row.name, code)
	}
	want := turned(s, row.turns)
	want.Cache = cache(t, row.after)
	wantWhole(t, fmt.Sprintf("%s, with %q and a pick of %d", row.name, row.lines, row.pick), impl.StepSystem(s, row.pick), impl.WholeResult{Kind: row.kind, Misses: row.misses, System: want})
}

// halts turns what a step that is denied turns.
func halts(s *impl.System) {
	who(s).Halted = true
}

// acts as another domain than 0.
func acts(domain int64) func(s *impl.System) {
	return func(s *impl.System) { s.Active = domain }
}

// Each kind of instruction, done: where the cache knew nothing, all, nothing and has no room, and what others may alone.
func TestStepSystemOfEachKind(t *testing.T) {
	reg := func(n int, v int64) func(s *impl.System) { return next(func(c *impl.Context) { c.Regs[n] = v }) }
	for _, row := range []struct {
		words string
		kind  int64
		turns func(s *impl.System)
	}{
		{"halt 0 0 0.1; 9.1", impl.OutDone, halts},
		{"set 1 0 5.1; 9.1", impl.OutDone, reg(1, 5)},
		{"add 2 3 0.1; 9.1", impl.OutDone, reg(2, 5)},
		{"sub 2 3 0.1; 9.1", impl.OutDone, reg(2, 65535)},
		{"load 2 1 0.1; 9.1", impl.OutDone, reg(2, 9)},
		{"store 5 1 0.1; 9.1", impl.OutDone, func(s *impl.System) { s.Memory.Words[1].Value, who(s).Pc = 5, 1 }},
		{"jump 0 0 6.1; 9.1", impl.OutDone, func(s *impl.System) { who(s).Pc = 6 }},
		{"zero 0 0 6.1; 9.1", impl.OutDone, func(s *impl.System) { who(s).Pc = 6 }},
		{"zero 1 0 6.1; 9.1", impl.OutDone, next(func(*impl.Context) {})},
		{"call 0 0 4.1; 9.1", impl.OutCall, next(func(*impl.Context) {})},
		{"out 5 0 0.1; 9.1", impl.OutDone, func(s *impl.System) { s.Out, who(s).Pc = append(s.Out, 5), 1 }},
		{"copy 2 7 0.1; 9.1", impl.OutDone, reg(2, 7)},
		{"bad11 0 0 0.1; 9.1", impl.OutDenied, halts},
		{"bad12 0 0 0.1; 9.1", impl.OutDenied, halts},
		{"bad13 0 0 0.1; 9.1", impl.OutDenied, halts},
		{"bad14 0 0 0.1; 9.1", impl.OutDenied, halts},
		{"bad15 0 0 0.1; 9.1", impl.OutDenied, halts},
	} {
		// Two words of one tag are one miss.
		wantWholeRows(t, []wholeRow{
			{row.words, "6:", row.words, nil, 0, row.kind, 1, "6: 017", row.turns},
			{row.words, "6: 017", row.words, nil, 0, row.kind, 0, "6: 017", row.turns},
			{row.words, "1:", row.words, nil, 0, row.kind, 1, "1: 017", row.turns},
			{row.words, "1: 017", row.words, nil, 5, row.kind, 0, "1: 017", row.turns},
			{row.words, "0:", row.words, nil, 0, row.kind, 1, "0:", row.turns},
			{row.words, "0:", row.words, nil, 7, row.kind, 1, "0:", row.turns},
			{row.words, "3: 115 217 317", row.words, nil, 0, row.kind, 1, "3: 217 317 017", row.turns},
			{row.words, "3: 115 217 317", row.words, nil, 3, row.kind, 1, "3: 115 217 317", row.turns},
			{row.words, "3: 115 217 317", row.words, nil, 4, row.kind, 1, "3: 217 317 017", row.turns},
			{row.words, allOfZero, row.words, nil, 0, row.kind, 0, allOfZero, row.turns},
		})
	}
}

// The word of the instruction and another that it is about: both known, one of them, none; with room for both, for one, for none.
func TestStepSystemOfTwoWords(t *testing.T) {
	words := "load 1 1 0.1; 9.3"
	loads := next(func(c *impl.Context) { c.Regs[1] = 9 })
	row := func(lines string, pick, misses int64, after string) wholeRow {
		return wholeRow{"two words", lines, words, nil, pick, impl.OutDone, misses, after, loads}
	}
	wantWholeRows(t, []wholeRow{
		row("6: 017 035", 0, 0, "6: 017 035"), row("6: 035 017", 9, 0, "6: 035 017"),
		row("6: 017", 0, 1, "6: 017 035"), row("6: 035", 0, 1, "6: 035 017"), row("6:", 0, 2, "6: 017 035"), row("6:", 1, 2, "6: 017 035"),
		// Full of what the step asks for, and full of one of both.
		row("2: 017 035", 0, 0, "2: 017 035"), row("2: 035 017", 1, 0, "2: 035 017"), row("2:", 0, 2, "2: 017 035"), row("2: 017", 1, 1, "2: 017 035"),
		row("1: 017", 0, 1, "1: 035"), row("1: 017", 1, 1, "1: 017"), row("1: 017", 2, 1, "1: 035"),
		row("1: 035", 0, 1, "1: 017"), row("1: 035", 1, 1, "1: 035"), row("1: 035", 3, 1, "1: 035"),
		row("1:", 0, 2, "1: 035"), row("1:", 1, 2, "1: 017"), row("1:", 2, 2, "1: 035"), row("1:", 3, 2, "1: 017"),
		row("0:", 0, 2, "0:"), row("0:", 1, 2, "0:"), row("0:", 2, 2, "0:"), row("0:", 3, 2, "0:"), row("0:", math.MaxInt64, 2, "0:"),
		// Two lines more than Size: a pick is taken of three, then of two.
		row("1: 115", 0, 2, "1: 035"), row("1: 115", 1, 2, "1: 115"), row("1: 115", 2, 2, "1: 017"), row("1: 115", 3, 2, "1: 017"), row("1: 115", 4, 2, "1: 035"), row("1: 115", 5, 2, "1: 115"), row("1: 115", 6, 2, "1: 035"),
		// And of eight, then of seven.
		row("6: 100 115 127 135 200 217", 0, 2, "6: 127 135 200 217 017 035"),
		row("6: 100 115 127 135 200 217", 6, 2, "6: 100 115 127 135 200 217"),
		row("6: 100 115 127 135 200 217", 7, 2, "6: 115 127 135 200 217 017"),
		row("6: 100 115 127 135 200 217", 8, 2, "6: 115 135 200 217 017 035"),
		row("6: 100 115 127 135 200 217", 9, 2, "6: 100 127 200 217 017 035"),
		row("6: 100 115 127 135 200 217", 56, 2, "6: 127 135 200 217 017 035"),
		row("6: 100 115 127 135 200 217", math.MaxInt64, 2, "6: 115 127 135 200 217 017"),
		// One more alone, of seven lines.
		row("6: 100 115 017 135 200 217", 0, 1, "6: 115 017 135 200 217 035"),
		row("6: 100 115 017 135 200 217", 2, 1, "6: 100 115 135 200 217 035"),
		row("6: 100 115 017 135 200 217", 6, 1, "6: 100 115 017 135 200 217"),
		row("6: 100 115 017 135 200 217", 7, 1, "6: 115 017 135 200 217 035"),
		// One more than Size, though two were missed.
		row("6: 100 115 127 135 200", 0, 2, "6: 115 127 135 200 017 035"), row("6: 100 115 127 135 200", 6, 2, "6: 100 115 127 135 200 017"),
	})
}

// A cache that is full of other lines of who is active itself.
func TestStepSystemOfFullCaches(t *testing.T) {
	for _, row := range []wholeRow{
		{"load", "", "load 1 0 1.1; 9.2", nil, 0, impl.OutDone, 2, "6: 047 057 067 100 017 027", next(func(c *impl.Context) { c.Regs[1] = 9 })},
		{"load", "", "load 1 0 1.1; 9.2", nil, 6, impl.OutDone, 2, "6: 000 037 047 057 067 100", next(func(c *impl.Context) { c.Regs[1] = 9 })},
		{"store", "", "store 5 0 1.2; 9.1", nil, 7, impl.OutDone, 2, "6: 037 047 057 067 100 027", func(s *impl.System) { s.Memory.Words[1].Value, who(s).Pc = 5, 1 }},
		{"load of the monitor's", "", "load 1 0 1.1; 9.0", nil, 6, impl.OutDenied, 1, "6: 000 037 047 057 067 100", halts},
		{"out", "", "out 5 0 0.1", nil, 1, impl.OutDone, 1, "6: 000 047 057 067 100 017", func(s *impl.System) { s.Out, who(s).Pc = []int64{5}, 1 }},
		{"known", "", "load 1 0 1.3; 9.6", nil, 0, impl.OutDone, 0, "6: 000 037 047 057 067 100", next(func(c *impl.Context) { c.Regs[1] = 9 })},
	} {
		wantRow(t, row, sevenTags(t, row.words))
	}
}

// Outs, with the tag of the device known and not, and where there is no room left for one.
func TestStepSystemOfOuts(t *testing.T) {
	device := func(domain, tag int64, out int) func(s *impl.System) {
		return func(s *impl.System) { s.Active, s.Device, s.Out = domain, tag, make([]int64, out) }
	}
	goes := func(v int64) func(s *impl.System) {
		return func(s *impl.System) { s.Out, who(s).Pc = append(s.Out, v), 1 }
	}
	words := "out 5 0 0.1"
	wantWholeRows(t, []wholeRow{
		{"its own tag", "6:", words, device(0, 1, 0), 0, impl.OutDone, 1, "6: 017", goes(5)},
		{"its own tag, known", "6: 017", words, device(0, 1, 0), 0, impl.OutDone, 0, "6: 017", goes(5)},
		{"by who owns", "6:", words, device(3, 3, 0), 0, impl.OutDone, 2, "6: 317 337", goes(305)},
		{"by who owns, the device known", "6: 337", words, device(3, 3, 0), 0, impl.OutDone, 1, "6: 337 317", goes(305)},
		{"by who owns, the word known", "6: 317", words, device(3, 3, 0), 0, impl.OutDone, 1, "6: 317 337", goes(305)},
		{"by who owns, both known", "6: 317 337", words, device(3, 3, 0), 0, impl.OutDone, 0, "6: 317 337", goes(305)},
		{"by who owns, no room", "0:", words, device(3, 3, 39), 0, impl.OutDone, 2, "0:", goes(305)},
		{"what may be read alone", "6:", words, device(0, 3, 0), 0, impl.OutDenied, 2, "6: 017 035", halts},
		{"what may not be read", "6:", words, device(0, 2, 0), 0, impl.OutDenied, 2, "6: 017 020", halts},
		{"what may not be read, known", "6: 020", words, device(0, 2, 0), 0, impl.OutDenied, 1, "6: 020 017", halts},
		{"behind 39", "6:", words, device(0, 1, 39), 0, impl.OutDone, 1, "6: 017", goes(5)},
		// Where there is no room the device is not asked for.
		{"behind 40", "6:", words, device(0, 3, 40), 0, impl.OutDenied, 1, "6: 017", halts},
		{"behind 40, by who owns", "1:", words, device(3, 3, 40), 0, impl.OutDenied, 1, "1: 317", halts},
		{"behind 40, its word forbidden", "6:", "out 5 0 0.2", device(0, 1, 40), 0, impl.OutDenied, 1, "6: 020", halts},
	})
}

// Behind a step that is denied its context is halted, and all else is as it was, but the cache.
func TestStepSystemDenied(t *testing.T) {
	at := func(pc int64) func(s *impl.System) { return func(s *impl.System) { who(s).Pc = pc } }
	wantWholeRows(t, []wholeRow{
		{"a word that is none", "6:", "set 1 0 5.1", at(1), 0, impl.OutDenied, 0, "6:", halts},
		{"a word that is far", "1: 017", "set 1 0 5.1", at(65535), 0, impl.OutDenied, 0, "1: 017", halts},
		{"a word that may not be read", "6:", "set 1 0 5.2", nil, 0, impl.OutDenied, 1, "6: 020", halts},
		{"a word that may not be read, known", "6: 020", "set 1 0 5.2", nil, 0, impl.OutDenied, 0, "6: 020", halts},
		{"a word that may not be read, no room", "0:", "set 1 0 5.2", nil, 0, impl.OutDenied, 1, "0:", halts},
		{"the monitor's word", "6:", "set 1 0 5.0", nil, 0, impl.OutDenied, 1, "6: 000", halts},
		{"the monitor's word, by who owns all", "6:", "set 1 0 5.0", acts(3), 0, impl.OutDenied, 1, "6: 300", halts},
		{"a word that may not be read, to be loaded by", "6:", "load 1 1 0.2; 9.1", nil, 0, impl.OutDenied, 1, "6: 020", halts},
		{"a word that may not be read, to be called by", "6:", "call 1 1 1.2; 9.1", nil, 0, impl.OutDenied, 1, "6: 020", halts},
		{"a word that may not be read, to be halted by", "6:", "halt 0 0 0.2; 9.1", nil, 0, impl.OutDenied, 1, "6: 020", halts},
		{"load of none", "6:", "load 1 7 0.1; 9.1", nil, 0, impl.OutDenied, 1, "6: 017", halts},
		{"load of what may not be read", "6:", "load 1 1 0.1; 9.2", nil, 0, impl.OutDenied, 2, "6: 017 020", halts},
		{"load of what may not be read, no room", "0:", "load 1 1 0.1; 9.2", nil, 0, impl.OutDenied, 2, "0:", halts},
		{"load of what may not be read, little room", "1: 115", "load 1 1 0.1; 9.2", nil, 0, impl.OutDenied, 2, "1: 020", halts},
		{"load of the monitor's", "6:", "load 1 1 0.1; 9.0", nil, 0, impl.OutDenied, 2, "6: 017 000", halts},
		{"store of none", "1:", "store 1 7 0.1; 9.1", nil, 1, impl.OutDenied, 1, "1: 017", halts},
		{"store of what may be read alone", "6:", "store 1 1 0.1; 9.3", nil, 0, impl.OutDenied, 2, "6: 017 035", halts},
		{"store of what may not be read", "1:", "store 1 1 0.1; 9.2", nil, 1, impl.OutDenied, 2, "1: 017", halts},
		{"store by who is tainted", "6:", "store 1 0 1.1; 9.1", func(s *impl.System) { s.Active, s.Contexts[1].Regs[0] = 1, 0 }, 0, impl.OutDenied, 1, "6: 115", halts},
		{"no kind", "1: 115", "bad15 7 7 63.1", nil, 0, impl.OutDenied, 1, "1: 017", halts},
		{"no kind, of what may be run alone", "1: 115", "bad11 7 7 63.3", nil, 1, impl.OutDenied, 1, "1: 115", halts},
	})
}

// Who is halted does nothing, asks for nothing and stays so; a step that halts or is denied is idle then.
func TestStepSystemIdle(t *testing.T) {
	for _, lines := range []string{"0:", "1:", "1: 017", "6:", allOfZero, "6: 017 115 217 317 020 337"} {
		for _, pc := range []int64{0, 1, 2, 3, 65535} {
			for _, pick := range stepPicks() {
				s := system(t, lines, "set 1 0 5.1; call 0 0 1.1; bad11 0 0 0.0")
				who(&s).Pc, who(&s).Halted = pc, true
				wantWhole(t, fmt.Sprintf("halted at %d with %q", pc, lines), impl.StepSystem(s, pick), impl.WholeResult{Kind: impl.OutIdle, System: s})
			}
		}
		for _, words := range []string{"halt 0 0 0.1", "bad11 0 0 0.1", "set 1 0 5.0"} {
			first := impl.StepSystem(system(t, lines, words), 0).System
			wantWhole(t, words+", again", impl.StepSystem(first, 0), impl.WholeResult{Kind: impl.OutIdle, System: first})
		}
	}
}

// Calls of each number, done and not done: what is said is in register 0, and the lines that were put are as many as before.
func TestStepSystemOfCalls(t *testing.T) {
	with := func(r ...int64) func(s *impl.System) {
		return func(s *impl.System) {
			copy(who(s).Regs, r)
			s.Gates = []impl.Gate{{Domain: 1, Entry: 8}, {Domain: 3, Entry: 9}, {Domain: 0, Entry: 65535}}
		}
	}
	says := func(said int64) func(s *impl.System) { return next(func(c *impl.Context) { c.Regs[0] = said }) }
	through := func(gate, v int64) func(s *impl.System) {
		return func(s *impl.System) {
			who(s).Pc = 1
			enter(s, gate, v)
		}
	}
	becomes := func(words string) func(s *impl.System) {
		return func(s *impl.System) {
			s.Memory, who(s).Pc, who(s).Regs[0] = marked(t, words), 1, 0
		}
	}
	wantWholeRows(t, []wholeRow{
		{"call 0", "1: 115", "call 0 0 0.1; 9.1", with(9), 0, impl.OutCall, 1, "1: 017", says(1)},
		{"call 5", "1: 115", "call 0 0 5.1; 9.1", with(9), 1, impl.OutCall, 1, "1: 115", says(1)},
		{"call 63", "0:", "call 0 0 63.1; 9.1", with(9), 0, impl.OutCall, 1, "0:", says(1)},
		{"taint by the monitor's tag", "1: 115", "call 0 0 1.1; 9.1", with(9, 0), 0, impl.OutCall, 1, "1: 017", says(1)},
		{"taint by no tag", "6: 017", "call 0 0 1.1; 9.1", with(9, 4), 0, impl.OutCall, 0, "6: 017", says(1)},
		{"retag", "1: 115", "call 0 0 2.1; 9.1", with(9, 1, 1, 1), 0, impl.OutCall, 1, "1: 017", becomes("call 0 0 2.1; 0.1")},
		{"retag its own word", "6:", "call 0 0 2.1; 9.1", with(9, 0, 2, 1), 0, impl.OutCall, 1, "6: 017", becomes("0.1; 0.1")},
		{"retag with no room", "0:", "call 0 0 2.1; 9.1", with(9, 1, 1, 1), 3, impl.OutCall, 1, "0:", becomes("call 0 0 2.1; 0.1")},
		{"retag what may not be", "6:", "call 0 0 2.1; 9.3", with(9, 1, 1, 1), 0, impl.OutCall, 1, "6: 017", says(1)},
		{"retag to what may not be", "0:", "call 0 0 2.1; 9.1", with(9, 1, 1, 2), 0, impl.OutCall, 1, "0:", says(1)},
		{"gate", "1: 115", "call 0 0 3.1; 9.1", with(9, 0, 77), 0, impl.OutCall, 1, "1: 017", through(0, 77)},
		{"a gate that is shut", "0:", "call 0 0 3.1; 9.1", with(9, 1, 77), 0, impl.OutCall, 1, "0:", next(func(*impl.Context) {})},
		{"a gate that is none", "6: 017", "call 0 0 3.1; 9.1", with(9, 3, 77), 0, impl.OutCall, 0, "6: 017", next(func(*impl.Context) {})},
		{"a gate to oneself", "6:", "call 0 0 3.1; 9.1", with(9, 2, 77), 0, impl.OutCall, 1, "6: 017", through(2, 77)},
		{"yield", "1: 115", "call 0 0 4.1; 9.1", with(9), 0, impl.OutCall, 1, "1: 017", next(func(*impl.Context) {})},
		{"yield, known", "1: 017", "call 0 0 4.1; 9.1", with(9), 0, impl.OutCall, 0, "1: 017", next(func(*impl.Context) {})},
	})
}

// Within a taint of who is active the lines of it are gone, that which this step put too, ahead of anything that is picked: so
// of the others' no line is gone for one that was not to stay.
func TestStepSystemOfTaints(t *testing.T) {
	by := func(domain, tag int64) func(s *impl.System) {
		return func(s *impl.System) { s.Active, s.Contexts[domain].Regs[1] = domain, tag }
	}
	up := func(s *impl.System) {
		s.Tables = tables(t, "1:1111 3:1311 1:1*11 1:0000 1:**** | 0 1 3 | 1 1 2 4")
		who(s).Pc, who(s).Regs[0] = 1, 0
	}
	not := func(s *impl.System) { who(s).Pc, who(s).Regs[0] = 1, 0 }
	for _, pick := range stepPicks() {
		wantWholeRows(t, []wholeRow{
			{"nothing known", "6:", "call 0 0 1.1", by(0, 2), pick, impl.OutCall, 1, "6:", up},
			{"no room", "0:", "call 0 0 1.1", by(0, 2), pick, impl.OutCall, 1, "0:", up},
			{"room for one", "1:", "call 0 0 1.1", by(0, 2), pick, impl.OutCall, 1, "1:", up},
			{"full of another's", "1: 115", "call 0 0 1.1", by(0, 2), pick, impl.OutCall, 1, "1: 115", up},
			{"full of its own", "1: 035", "call 0 0 1.1", by(0, 2), pick, impl.OutCall, 1, "1:", up},
			{"full of what it asks for", "1: 017", "call 0 0 1.1", by(0, 2), pick, impl.OutCall, 0, "1:", up},
			{"full of both", "3: 035 115 020", "call 0 0 1.1", by(0, 2), pick, impl.OutCall, 1, "3: 115", up},
			{"full", "6: 100 115 127 135 200 217", "call 0 0 1.1", by(0, 2), pick, impl.OutCall, 1, "6: 100 115 127 135 200 217", up},
			{"full, and known", "6: 100 115 127 135 017 217", "call 0 0 1.1", by(0, 2), pick, impl.OutCall, 0, "6: 100 115 127 135 217", up},
			// A taint that taints nothing makes the cache forget all the same.
			{"by its own", "6: 115 217", "call 0 0 1.1", by(0, 1), pick, impl.OutCall, 1, "6: 115 217", not},
			{"of another", "6: 017 217 135", "call 0 0 1.1", by(1, 2), pick, impl.OutCall, 1, "6: 017 217", not},
			{"of who owns", "2: 317 017", "call 0 0 1.1", by(3, 3), pick, impl.OutCall, 0, "2: 017", not},
		})
	}
}

// What a domain may that was tainted is asked for anew, by the label that it has then.
func TestStepSystemBehindATaint(t *testing.T) {
	for size := range int64(7) {
		s := system(t, "0:", "call 0 0 1.1; store 5 0 0.1")
		s.Cache.Size, s.Contexts[0].Regs[1] = size, 2
		first := impl.StepSystem(s, 0)
		second := impl.StepSystem(first.System, 0)
		if first.Kind != impl.OutCall || second.Kind != impl.OutDenied || second.Misses != 1 || !second.System.Contexts[0].Halted || second.System.Memory.Words[0].Value != s.Memory.Words[0].Value {
			t.Errorf("size %d: %v, then %v", size, first, second)
		}
		wantWhole(t, "the first", first, plainWhole(s, 0))
		wantWhole(t, "the second", second, plainWhole(first.System, 0))
	}
}

// Every kind with each tag of its word, of what it asks for and of the device, and all that the cache can know of these, full
// and with room.
func TestStepSystemWithEachTag(t *testing.T) {
	base := system(t, "6:", "0.0; 9.0")
	lines := trueLines(base.Tables)
	for op := range int64(16) {
		for n := range int64(4 * 4 * 3 * 4) {
			first, second, device, domain := n%4, n/4%4, 1+n/16%3, n/48
			for known := range int64(16) {
				s := cloneSystem(base)
				s.Memory.Words = []impl.Word{{Value: op*4096 + 5*512 + 4*64 + n%6, Tag: first}, {Value: 9, Tag: second}}
				s.Active, s.Device = domain, device
				who(&s).Regs[4] = 1 - n%6
				if n%6 > 1 {
					who(&s).Regs[4] += 65536
				}
				copy(who(&s).Regs[1:], [][]int64{{2, 1, 1}, {0, 2, 2}, {1, 1, 2}}[n%3])
				for _, l := range lines {
					if l.Domain == domain && known>>l.Tag&1 == 1 {
						s.Cache.Lines = append(s.Cache.Lines, l)
					}
				}
				if (known+n)%2 == 0 {
					s.Cache.Size = int64(len(s.Cache.Lines))
				}
				wantWholeOf(t, s, (known+n+op)%9)
			}
		}
	}
}

// Every word there is, as an instruction of each domain.
func TestStepSystemOfEachWord(t *testing.T) {
	bases := []impl.System{}
	for _, lines := range []string{"0:", "1: 017", "6: 100 115 127 135", "6: 200 217 017 235 300 317", "2: 017 217", "6:", "1:"} {
		bases = append(bases, system(t, lines, "0.1; 11.1; 12.2; 13.3; 14.0; 65535.1; 16.2; 17.3"))
	}
	eachWord(func(w int64) {
		s := cloneSystem(bases[w/2%7])
		at := w / 7 % 4
		s.Active, s.Device = w/2%4, 1+w/3%3
		s.Memory.Words[at].Value = w
		who(&s).Pc, who(&s).Regs = at, []int64{0, 65535, 3, 65530, 1, 32768, 5, 65475}
		if w%5 == 0 {
			s.Out = make([]int64, 39+w/2%2)
		}
		wantWholeOf(t, s, w%17)
	})
}

// sameButCaches asks that two steps are the same in all but how often they missed and what the cache is.
func sameButCaches(a, b impl.WholeResult) bool {
	return a.Code == b.Code && a.Kind == b.Kind && impl.SameArchs(a.System, b.System)
}

// Whatever the cache knows, how much it has room for and what is picked: the step is the same in all else.
func TestStepSystemWhateverTheCacheIs(t *testing.T) {
	for _, s := range wholes(t) {
		want := impl.StepSystem(turned(s, func(s *impl.System) { s.Cache = impl.Cache{} }), 0)
		lines := trueLines(s.Tables)
		for size := range int64(7) {
			for from := range lines {
				known := append(slices.Clone(lines[from:]), lines[:from]...)
				now := turned(s, func(s *impl.System) {
					s.Cache = impl.Cache{Size: size, Lines: known[:min(int(size), len(known), 1+from%6)]}
				})
				if got := wantWholeOf(t, now, int64(from)); !sameButCaches(got, want) {
					t.Errorf("%v with %s: %v; want %v but for the cache", s, cacheTold(now.Cache), got, want)
				}
			}
		}
	}
}

// wantHeld asks what a step of the whole keeps: of the labels and marks what no monitor's call turns, and nothing at all, but
// Halted and the cache, where it was denied; and what promise 9 tells of all calls.
func wantHeld(t *testing.T, s impl.System, got impl.WholeResult) {
	t.Helper()
	what := fmt.Sprintf("a step of %v", s)
	now := got.System
	switch got.Kind {
	case impl.OutIdle:
		if !sameSystem(s, now) || got.Misses != 0 {
			t.Errorf("%s: idle, and it made %v", what, now)
		}
	case impl.OutDenied:
		if !impl.SameArchs(turned(s, halts), now) {
			t.Errorf("%s: denied, and it made %v", what, now)
		}
	case impl.OutDone:
		same := turned(now, func(n *impl.System) { n.Cache = s.Cache })
		wantKept(t, what, s, impl.StepResult{Kind: got.Kind, System: same})
	case impl.OutCall:
		same := turned(now, func(n *impl.System) { n.Cache = plain(s.Cache).flush(s.Active, -1).cache() })
		wantGuarded(t, what, s, same)
	default:
		t.Errorf("%s: kind %d", what, got.Kind)
	}
	if now.Cache.Size != s.Cache.Size || !impl.CacheTrue(now.Cache, now.Tables) {
		t.Errorf("%s: the cache is %s", what, cacheTold(now.Cache))
	}
	for _, l := range now.Cache.Lines {
		if _, known := plain(s.Cache).look(l.Domain, l.Tag); !known && (l.Domain != s.Active || got.Misses == 0) {
			t.Errorf("%s: the line %v came by nobody's asking", what, l)
		}
	}
}

// likelyCalls makes a program of a system call, load, store and let out more often than words that come as they will.
func likelyCalls(source *rand.Rand, s *impl.System) {
	for place := range s.Memory.Words {
		w := &s.Memory.Words[place]
		switch source.Intn(4) {
		case 0:
			w.Value = 8*4096 + 1 + source.Int63n(4)
		case 1:
			w.Value = []int64{4, 5, 9}[source.Intn(3)]*4096 + source.Int63n(4096)
		}
	}
	for domain := range s.Contexts {
		for n := range s.Contexts[domain].Regs {
			if source.Intn(2) == 0 {
				s.Contexts[domain].Regs[n] = source.Int63n(5)
			}
		}
	}
}

// Steps one behind the other, of systems of all kinds, each domain in turn.
func TestStepSystemAgainAndAgain(t *testing.T) {
	source, all := rand.New(rand.NewSource(10)), runnable(t)
	kinds, misses := map[int64]int{}, map[int64]int{}
	for range 2500 {
		s := cloneSystem(anySystem(t, source, all))
		likelyCalls(source, &s)
		for range 10 {
			if source.Intn(3) == 0 {
				s.Active = source.Int63n(int64(len(s.Contexts)))
			}
			got := wantWholeOf(t, s, []int64{0, source.Int63n(9), source.Int63()}[source.Intn(3)])
			wantHeld(t, s, got)
			if t.Failed() {
				return
			}
			kinds[got.Kind]++
			misses[got.Misses]++
			s = got.System
		}
	}
	for _, kind := range []int64{impl.OutDone, impl.OutDenied, impl.OutCall, impl.OutIdle} {
		if kinds[kind] < 100 {
			t.Errorf("too few steps that are %s: %v", kindTold(kind), kinds)
		}
	}
	if kinds[impl.OutMiss] > 0 || len(misses) != 3 || misses[0] < 100 || misses[1] < 100 || misses[2] < 100 {
		t.Errorf("kinds %v, misses %v", kinds, misses)
	}
}

// A small program to its end, with caches of each size: who is tainted can't let go out what it read any more.
func TestStepSystemOfAProgram(t *testing.T) {
	for size := range int64(7) {
		for _, pick := range stepPicks() {
			s := system(t, "0:", "set 1 0 2.1; call 0 0 1.1; load 4 0 8.1; store 4 0 9.1; out 4 0 0.1; 0.1; 0.1; 0.1; 1234.2; 0.2")
			s.Cache.Size, s.Contexts[0].Regs[0] = size, 0
			kinds := []int64{}
			for range 6 {
				got := impl.StepSystem(s, pick)
				kinds, s = append(kinds, got.Kind), got.System
			}
			if want := []int64{impl.OutDone, impl.OutCall, impl.OutDone, impl.OutDone, impl.OutDenied, impl.OutIdle}; !slices.Equal(kinds, want) {
				t.Errorf("size %d, pick %d: kinds %v; want %v", size, pick, kinds, want)
			}
			if s.Memory.Words[9] != (impl.Word{Value: 1234, Tag: 2}) || !slices.Equal(s.Out, []int64{7, 65535}) || s.Contexts[0].Pc != 4 || s.Contexts[0].Regs[4] != 1234 {
				t.Errorf("size %d, pick %d: %v", size, pick, s)
			}
		}
	}
}

func TestFillForRows(t *testing.T) {
	for _, row := range []struct {
		active    int64
		before    string
		tag, pick int64
		said      int64
		after     string
	}{
		{0, "6:", 0, 0, 0, "6: 000"}, {0, "6:", 1, 0, 7, "6: 017"}, {0, "6:", 2, 0, 0, "6: 020"}, {0, "6:", 3, 0, 5, "6: 035"},
		{1, "6:", 0, 0, 0, "6: 100"}, {1, "6:", 1, 0, 5, "6: 115"}, {1, "6:", 2, 0, 7, "6: 127"}, {1, "6:", 3, 0, 5, "6: 135"},
		{2, "6:", 1, 9, 7, "6: 217"}, {2, "6:", 3, 9, 5, "6: 235"}, {3, "6:", 3, 9, 7, "6: 337"}, {3, "6:", 0, 9, 0, "6: 300"},
		// What is known already is the last line then, and none is gone for it.
		{0, "6: 017 115 035", 1, 0, 7, "6: 115 035 017"}, {0, "3: 017 115 035", 1, 1, 7, "3: 115 035 017"}, {0, "1: 017", 1, 5, 7, "1: 017"},
		// A cache of none remembers nothing, but it is told all the same.
		{0, "0:", 0, 0, 0, "0:"}, {0, "0:", 1, 0, 7, "0:"}, {0, "0:", 3, math.MaxInt64, 5, "0:"}, {3, "0:", 3, 1, 7, "0:"},
		{0, "1:", 1, 0, 7, "1: 017"}, {0, "1: 115", 1, 0, 7, "1: 017"}, {0, "1: 115", 1, 1, 7, "1: 017"}, {0, "1: 115", 1, math.MaxInt64, 7, "1: 017"},
		{0, "6: 100 115 127 135 200 217", 1, 0, 7, "6: 115 127 135 200 217 017"},
		{0, "6: 100 115 127 135 200 217", 1, 5, 7, "6: 100 115 127 135 200 017"},
		{0, "6: 100 115 127 135 200 217", 1, 6, 7, "6: 115 127 135 200 217 017"},
		{0, "6: 100 115 127 135 200 217", 1, 7, 7, "6: 100 127 135 200 217 017"},
		{0, "6: 100 115 127 135 200", 2, 0, 0, "6: 100 115 127 135 200 020"},
	} {
		s := gated(t, row.active, impl.Gate{Domain: 1, Entry: 8})
		s.Cache = cache(t, row.before)
		want := impl.CallResult{Said: row.said, System: turned(s, func(s *impl.System) { s.Cache = cache(t, row.after) })}
		wantCall(t, fmt.Sprintf("domain %d and tag %d with %q and a pick of %d", row.active, row.tag, row.before, row.pick), impl.FillFor(s, row.tag, row.pick), want)
	}
}

// A pick below 0 is told ahead of a tag that is none.
func TestFillForCodes(t *testing.T) {
	for _, s := range append(goodSystems(t), sevenTags(t, "0.1")) {
		tags := int64(len(s.Tables.Tags))
		none := append(farNumbers(), -1, tags+1, tags+2, 7, 8, 65536)
		for _, tag := range none {
			for _, pick := range stepPicks() {
				wantNoCall(t, fmt.Sprintf("tag %d of %d", tag, tags), impl.FillFor(s, tag, pick), impl.ErrNone)
			}
		}
		for _, pick := range noPicks() {
			for _, tag := range append(none, 0, 1, tags) {
				wantNoCall(t, fmt.Sprintf("tag %d of %d with a pick of %d", tag, tags, pick), impl.FillFor(s, tag, pick), impl.ErrRange)
			}
			wantNoWhole(t, fmt.Sprint("a step with a pick of ", pick), impl.StepSystem(s, pick), impl.ErrRange)
		}
	}
}

// Behind FillFor LookCache tells what PermOf tells, where there is any room, and what else is known was known.
func TestFillForIsKnownThen(t *testing.T) {
	for n, s := range append(wholes(t), sevenTags(t, "0.1")) {
		for tag := range int64(len(s.Tables.Tags)) + 1 {
			for _, pick := range []int64{0, int64(n) % 7, int64(len(s.Cache.Lines)), math.MaxInt64} {
				got := wantAsked(t, s, asksFill(tag, pick))
				perm := impl.PermOf(s.Tables, s.Active, tag)
				look := impl.LookCache(got.System.Cache, s.Active, tag)
				if s.Cache.Size > 0 && look != perm || s.Cache.Size == 0 && look != (impl.IntResult{Code: impl.ErrNone}) || got.Said != perm.Value {
					t.Errorf("tag %d of %v: said %d, known %v; the labels tell %v", tag, s, got.Said, look, perm)
				}
				if !impl.SameArchs(got.System, s) || got.System.Cache.Size != s.Cache.Size {
					t.Errorf("tag %d of %v: it made %v", tag, s, got.System)
				}
				for _, l := range got.System.Cache.Lines {
					if was, known := plain(s.Cache).look(l.Domain, l.Tag); (l.Domain != s.Active || l.Tag != tag) && (!known || was != l.Perm) {
						t.Errorf("tag %d of %v: the line %v came by itself", tag, s, l)
					}
				}
			}
		}
	}
}

// Of all labels that a domain and a tag can have, what is filled for is what the labels tell.
func TestFillForOfLabels(t *testing.T) {
	owners, things := labelsTold(t)
	want := func(who, what impl.Label) {
		s := twoTags(t, who, what, label(t, "1111"))
		s.Cache.Size = 1
		wantCall(t, fmt.Sprintf("%v and %v", who, what), impl.FillFor(s, 1, 0), plainFill(s, 1, 0))
	}
	eachOwner(func(who impl.Label) {
		for _, what := range things {
			want(who, what)
		}
	})
	eachThing(func(what impl.Label) {
		for _, who := range owners {
			want(who, what)
		}
	})
}

// wantSameArchs asks both ways.
func wantSameArchs(t *testing.T, what string, a, b impl.System, want bool) {
	t.Helper()
	if impl.SameArchs(a, b) != want || impl.SameArchs(b, a) != want {
		t.Errorf("%s: same %v and %v; want %v", what, impl.SameArchs(a, b), impl.SameArchs(b, a), want)
	}
}

// One thing that differs, wherever it stands, is enough.
func TestSameArchsOfOneThatDiffers(t *testing.T) {
	base := system(t, "6: 000 017 115", "set 1 0 5.1; 9.2; 7.3; 8.0")
	base.Gates = []impl.Gate{{Domain: 1, Entry: 8}, {Domain: 0, Entry: 65535}, {Domain: 2, Entry: 9}}
	wantSameArchs(t, "itself", base, base, true)
	wantSameArchs(t, "a clone", base, cloneSystem(base), true)
	list := turnings(base)
	for n, x := range list {
		a := turned(base, x.turn)
		wantSameArchs(t, x.name, base, a, false)
		wantSameArchs(t, x.name+", with another cache", base, turned(a, func(s *impl.System) { s.Cache = impl.Cache{} }), false)
		wantSameArchs(t, x.name+", both", cloneSystem(a), a, true)
		y := list[(n+1)%len(list)]
		wantSameArchs(t, x.name+" and "+y.name, a, turned(base, y.turn), false)
	}
}

// What differs in the cache alone is the same, be the cache as it may, faulty too.
func TestSameArchsOfCaches(t *testing.T) {
	caches := []impl.Cache{{}}
	for _, text := range goodCaches() {
		caches = append(caches, cache(t, text))
	}
	for _, f := range allFaultyCaches(t) {
		caches = append(caches, f.cache)
	}
	for _, s := range []impl.System{{}, system(t, allOfZero, "set 1 0 5.1"), sevenTags(t, "0.1"), turned(system(t, "0:", "0.1"), func(s *impl.System) { s.Active = 9 })} {
		for _, c := range caches {
			wantSameArchs(t, cacheTold(c), s, turned(s, func(s *impl.System) { s.Cache = c }), true)
		}
	}
}

// Systems of all kinds, with faults too, are each the same as themselves, and as no other one that is not told alike.
func TestSameArchsOfManySystems(t *testing.T) {
	list := append(manySystems(t), wholes(t)...)
	bare := []string{}
	for n := range list {
		bare = append(bare, told(turned(list[n], func(s *impl.System) { s.Cache = impl.Cache{} })))
	}
	for n, a := range list {
		for m, b := range list {
			if (n+m)%13 == 0 || n == m || m == n+1 {
				wantSameArchs(t, bare[n]+" and "+bare[m], a, b, bare[n] == bare[m])
			}
		}
	}
	wantSameArchs(t, "nothing and empty lists", impl.System{}, impl.System{Memory: impl.Memory{Words: []impl.Word{}}, Contexts: []impl.Context{}, Out: []int64{}, Gates: []impl.Gate{}, Tables: impl.Tables{Registry: impl.Registry{Slots: []impl.Slot{}}, Tags: []int64{}, Domains: []int64{}}}, true)
}

// With as little and as much of everything as may be.
func TestNewSystem(t *testing.T) {
	three := []impl.Gate{{Domain: 0, Entry: 65535}, {}, {Domain: 0, Entry: 8}}
	for _, x := range runnable(t) {
		tags := int64(len(x.Tags))
		last := int64(len(x.Domains)) - 1
		for _, words := range [][]impl.Word{nil, {}, {{Value: 65535, Tag: tags}}, {{}, {Value: 4613, Tag: 1}}, slices.Repeat([]impl.Word{{Value: 9, Tag: tags}}, 31), slices.Repeat([]impl.Word{{Value: 9, Tag: 1}}, 32)} {
			for _, gates := range [][]impl.Gate{nil, {}, {{Domain: last, Entry: 8}}, three} {
				for _, device := range []int64{1, tags} {
					for size := range int64(7) {
						got := impl.NewSystem(x, words, device, size, gates)
						wantSystem(t, fmt.Sprintf("%s, %v, device %d, size %d, %v", tablesTold(x), words, device, size, gates), got, anew(x, words, device, size, gates))
					}
				}
			}
		}
	}
}

// Faults of the tables come first, then the size, then all that a system can be told, with all else right and wrong.
func TestNewSystemCodes(t *testing.T) {
	x := tables(t, machineTables)
	right, gate := []impl.Word{{Value: 9, Tag: 1}}, []impl.Gate{{Domain: 1, Entry: 8}}
	for _, f := range append(faultyTables(t), manyFaults(t)...) {
		wantNoSystem(t, f.name, impl.NewSystem(f.tables, right, 1, 2, gate), f.code)
		wantNoSystem(t, f.name+", a wrong size", impl.NewSystem(f.tables, right, 1, 7, gate), f.code)
		wantNoSystem(t, f.name+", all wrong", impl.NewSystem(f.tables, make([]impl.Word, 33), 0, -1, make([]impl.Gate, 4)), f.code)
	}
	for _, size := range append(farNumbers(), -1, 7, 8, 100) {
		what := fmt.Sprint("a size of ", size)
		wantNoSystem(t, what, impl.NewSystem(x, right, 1, size, gate), impl.ErrRange)
		wantNoSystem(t, what+", many words", impl.NewSystem(x, make([]impl.Word, 33), 0, size, make([]impl.Gate, 4)), impl.ErrRange)
		wantNoSystem(t, what+", no domains", impl.NewSystem(tables(t, "1:1111 | 0 |"), right, 0, size, nil), impl.ErrRange)
		wantNoSystem(t, what+", no device", impl.NewSystem(x, right, 0, size, gate), impl.ErrRange)
	}
	for _, f := range allFaultyMemories() {
		wantNoSystem(t, f.name, impl.NewSystem(x, f.memory.Words, 1, 2, gate), f.code)
		wantNoSystem(t, f.name+", no device", impl.NewSystem(x, f.memory.Words, 0, 2, make([]impl.Gate, 4)), f.code)
	}
	for tag := int64(4); tag <= 7; tag++ {
		wantNoSystem(t, fmt.Sprint("a word of tag ", tag), impl.NewSystem(x, []impl.Word{{Tag: tag}}, 1, 2, gate), impl.ErrRange)
	}
	for _, text := range []string{"| |", "- - | |", "1:1111 | 0 |", "6:1111 | 0 0 0 0 0 0 |"} {
		wantNoSystem(t, "no domains: "+text, impl.NewSystem(tables(t, text), nil, 1, 2, nil), impl.ErrForm)
		wantNoSystem(t, "no domains and no device: "+text, impl.NewSystem(tables(t, text), nil, 0, 2, make([]impl.Gate, 4)), impl.ErrForm)
	}
}

// What stands behind the words in a system's faults: the device, then how many gates, then each of them.
func TestNewSystemPortCodes(t *testing.T) {
	x := tables(t, machineTables)
	right, gate := []impl.Word{{Value: 9, Tag: 1}}, []impl.Gate{{Domain: 1, Entry: 8}}
	for _, device := range append(farNumbers(), -1, 0, 4, 5, 6, 7) {
		what := fmt.Sprint("the device ", device)
		wantNoSystem(t, what, impl.NewSystem(x, right, device, 2, gate), impl.ErrNone)
		wantNoSystem(t, what+", many gates", impl.NewSystem(x, right, device, 2, make([]impl.Gate, 4)), impl.ErrNone)
		wantNoSystem(t, what+", many words", impl.NewSystem(x, make([]impl.Word, 33), device, 2, gate), impl.ErrMany)
	}
	wantNoSystem(t, "no tags", impl.NewSystem(tables(t, "1:1*11 | | 0"), nil, 1, 2, nil), impl.ErrNone)
	for _, many := range []int{4, 5, 100} {
		wantNoSystem(t, fmt.Sprint(many, " gates"), impl.NewSystem(x, right, 1, 2, make([]impl.Gate, many)), impl.ErrMany)
		wantNoSystem(t, fmt.Sprint(many, " gates to nobody"), impl.NewSystem(x, right, 1, 2, slices.Repeat([]impl.Gate{{Domain: 9, Entry: -1}}, many)), impl.ErrMany)
	}
	for place := range 3 {
		for _, entry := range notWords() {
			gates := make([]impl.Gate, 3)
			gates[place].Entry = entry
			wantNoSystem(t, fmt.Sprintf("gate %d to %d", place, entry), impl.NewSystem(x, right, 1, 2, gates), impl.ErrRange)
		}
		for _, domain := range append(farNumbers(), -1, 4, 5) {
			gates := make([]impl.Gate, 3)
			gates[place].Domain = domain
			wantNoSystem(t, fmt.Sprintf("gate %d to the domain %d", place, domain), impl.NewSystem(x, right, 1, 2, gates), impl.ErrRange)
		}
	}
}
