package tests

// Promise 11: a run in two parts is what it is in one; what a step asks for is what the labels allow, where it is done; whatever
// the cache is, and whatever is evicted, all but the cache is the same.

import (
	"fmt"
	"math"
	"math/rand"
	"slices"
	"strings"
	"testing"

	"loop.example/g00530/impl"
)

func TestRunBounds(t *testing.T) {
	got := []int64{impl.EventRun, impl.EventSwitch, impl.EventEvict, impl.MaxEvents, impl.MaxSteps}
	if want := []int64{1, 2, 3, 20, 30}; !slices.Equal(got, want) {
		t.Errorf("%v; want %v", got, want)
	}
}

func wantEventFault(t *testing.T, e impl.Event, code int64) {
	t.Helper()
	if got := impl.EventFault(e); got != code {
		t.Errorf("%v: code %d; want %d", e, got, code)
	}
}

func TestEventFaultRows(t *testing.T) {
	for _, row := range []struct {
		event impl.Event
		code  int64
	}{
		{impl.Event{Kind: 1, N: 1}, impl.OK}, {impl.Event{Kind: 1, N: 30}, impl.OK}, {impl.Event{Kind: 1, N: 1, Pick: 999}, impl.OK}, {impl.Event{Kind: 1, N: 30, Pick: 999}, impl.OK},
		{impl.Event{Kind: 1}, impl.ErrRange}, {impl.Event{Kind: 1, N: -1}, impl.ErrRange}, {impl.Event{Kind: 1, N: 31}, impl.ErrRange}, {impl.Event{Kind: 1, N: 1<<32 + 1}, impl.ErrRange},
		{impl.Event{Kind: 1, N: 1, Pick: 1000}, impl.ErrRange}, {impl.Event{Kind: 1, N: 1, Pick: -1}, impl.ErrRange}, {impl.Event{Kind: 1, Pick: -1}, impl.ErrRange}, {impl.Event{Kind: 1, N: 31, Pick: 1000}, impl.ErrRange},
		// To which domain a switch is is asked of a system alone.
		{impl.Event{Kind: 2}, impl.OK}, {impl.Event{Kind: 2, N: 3}, impl.OK}, {impl.Event{Kind: 2, N: 4}, impl.OK}, {impl.Event{Kind: 2, N: -1}, impl.OK}, {impl.Event{Kind: 2, N: 31}, impl.OK},
		{impl.Event{Kind: 2, N: math.MaxInt64}, impl.OK}, {impl.Event{Kind: 2, N: math.MinInt64}, impl.OK},
		{impl.Event{Kind: 2, Pick: 1}, impl.ErrForm}, {impl.Event{Kind: 2, N: 1, Pick: 999}, impl.ErrForm},
		// What a kind has not is told ahead of what is out of bounds.
		{impl.Event{Kind: 2, Pick: -1}, impl.ErrForm}, {impl.Event{Kind: 2, Pick: 1000}, impl.ErrForm}, {impl.Event{Kind: 3, N: 1, Pick: -1}, impl.ErrForm}, {impl.Event{Kind: 3, N: -1, Pick: 1000}, impl.ErrForm},
		{impl.Event{Kind: 3}, impl.OK}, {impl.Event{Kind: 3, Pick: 999}, impl.OK}, {impl.Event{Kind: 3, Pick: 1000}, impl.ErrRange}, {impl.Event{Kind: 3, Pick: -1}, impl.ErrRange},
		{impl.Event{Kind: 3, N: 1}, impl.ErrForm}, {impl.Event{Kind: 3, N: -1}, impl.ErrForm}, {impl.Event{Kind: 3, N: 31}, impl.ErrForm},
		{impl.Event{}, impl.ErrForm}, {impl.Event{N: 1}, impl.ErrForm}, {impl.Event{Kind: 4}, impl.ErrForm}, {impl.Event{Kind: 4, N: 1, Pick: 1}, impl.ErrForm}, {impl.Event{Kind: -1, N: 1}, impl.ErrForm},
		{impl.Event{N: 31, Pick: -1}, impl.ErrForm}, {impl.Event{Kind: 4, N: 31, Pick: 1000}, impl.ErrForm},
	} {
		wantEventFault(t, row.event, row.code)
	}
}

// Each kind with each N and Pick at the edges and far off.
func TestEventFaultAtTheEdges(t *testing.T) {
	numbers := append(farNumbers(), -1, 0, 1, 2, 3, 4, 15, 29, 30, 31, 32, 500, 998, 999, 1000, 1001, 1<<32+30, 1<<16+1)
	for _, kind := range append(farNumbers(), -1, 0, 1, 2, 3, 4, 5, 1<<32+3, 1<<8+1) {
		for _, n := range numbers {
			for _, pick := range numbers {
				e := impl.Event{Kind: kind, N: n, Pick: pick}
				wantEventFault(t, e, plainEventFault(e))
			}
		}
	}
	for _, e := range wrongEvents() {
		if impl.EventFault(e) == impl.OK {
			t.Errorf("%v has no fault", e)
		}
	}
}

// accessRow is what the next step of domain 0 asks for, where nothing else is set.
type accessRow struct {
	words string
	set   func(s *impl.System)
	want  string
}

// Whatever the cache knows is the same.
func wantAccessRows(t *testing.T, rows []accessRow) {
	t.Helper()
	for _, row := range rows {
		for _, lines := range []string{"0:", "6:", "1: 115", allOfZero, "6: 017 115 217 317 020 337"} {
			s := system(t, lines, row.words)
			if row.set != nil {
				row.set(&s)
			}
			wantAccesses(t, row.words+" with "+lines, impl.AccessesOf(s), accesses(t, row.want))
			wantAccessesOf(t, s)
		}
	}
}

func TestAccessesOfEachKind(t *testing.T) {
	for op, name := range kindNames() {
		want := "0x0.1+"
		switch op {
		case impl.DoLoad:
			want += " 0r1.3+"
		case impl.DoStore:
			want += " 0w1.3-"
		case impl.DoOut:
			want += " 0w-1.1+"
		}
		wantAccessRows(t, []accessRow{
			{name + " 5 0 1.1; 9.3", nil, want},
			{name + " 5 0 1.2; 9.3", nil, "0x0.2-"},
			{name + " 5 0 1.0; 9.3", nil, "0x0.0-"},
			{name + " 5 0 1.3; 9.3", nil, strings.Replace(want, "0x0.1", "0x0.3", 1)},
			{name + " 5 0 1.1; 9.3", func(s *impl.System) { who(s).Halted = true }, ""},
			{"9.3; 9.3; " + name + " 5 0 1.1", func(s *impl.System) { who(s).Pc = 2 }, strings.Replace(want, "0x0", "0x2", 1)},
			{name + " 5 0 1.1; 9.3", func(s *impl.System) { who(s).Pc = 2 }, ""},
			{name + " 5 0 1.1; 9.3", func(s *impl.System) { who(s).Pc = 65535 }, ""},
			{name + " 5 0 1.1; 9.3", func(s *impl.System) { s.Memory.Words = nil }, ""},
		})
	}
}

// Loads and stores of words that are there and are not, that are allowed and are not.
func TestAccessesOfLoadsAndStores(t *testing.T) {
	far := func(n int, v int64) func(s *impl.System) { return func(s *impl.System) { who(s).Regs[n] = v } }
	as := func(domain int64) func(s *impl.System) {
		return func(s *impl.System) { s.Active, s.Contexts[domain].Regs[0] = domain, 0 }
	}
	wantAccessRows(t, []accessRow{
		{"load 1 0 1.1; 9.1", nil, "0x0.1+ 0r1.1+"}, {"load 1 0 1.1; 9.2", nil, "0x0.1+ 0r1.2-"}, {"load 1 0 1.1; 9.3", nil, "0x0.1+ 0r1.3+"}, {"load 1 0 1.1; 9.0", nil, "0x0.1+ 0r1.0-"},
		{"store 1 0 1.1; 9.1", nil, "0x0.1+ 0w1.1+"}, {"store 1 0 1.1; 9.2", nil, "0x0.1+ 0w1.2-"}, {"store 1 0 1.1; 9.3", nil, "0x0.1+ 0w1.3-"}, {"store 1 0 1.1; 9.0", nil, "0x0.1+ 0w1.0-"},
		{"load 1 0 1.3; 9.1", nil, "0x0.3+ 0r1.1+"}, {"store 1 0 1.3; 9.1", nil, "0x0.3+ 0w1.1+"},
		// Of the word itself.
		{"load 1 0 0.1", nil, "0x0.1+ 0r0.1+"}, {"store 1 0 0.1", nil, "0x0.1+ 0w0.1+"}, {"store 1 0 0.3", nil, "0x0.3+ 0w0.3-"},
		// The first place that is none, and others.
		{"load 1 0 2.1; 9.1", nil, "0x0.1+"}, {"store 1 0 2.1; 9.1", nil, "0x0.1+"}, {"load 1 0 63.1; 9.1", nil, "0x0.1+"}, {"store 1 7 63.1; 9.1", nil, "0x0.1+"},
		{"load 1 1 0.1; 9.1", far(1, 65535), "0x0.1+"}, {"store 1 1 1.1; 9.1", far(1, 32768), "0x0.1+"},
		// A register and Imm together, and modulo 65536.
		{"load 1 1 0.1; 9.3", nil, "0x0.1+ 0r1.3+"}, {"store 2 1 1.1; 9.3; 9.1", nil, "0x0.1+ 0w2.1+"}, {"load 1 5 2.1; 9.3", far(5, 65535), "0x0.1+ 0r1.3+"}, {"store 1 5 63.1; 9.3", far(5, 65473), "0x0.1+ 0w0.1+"},
		// By each domain.
		{"load 1 0 1.1; 9.2", as(1), "1x0.1+ 1r1.2+"}, {"store 1 0 1.1; 9.2", as(1), "1x0.1+ 1w1.2+"}, {"store 1 0 1.1; 9.1", as(1), "1x0.1+ 1w1.1-"}, {"load 1 0 1.2; 9.0", as(1), "1x0.2+ 1r1.0-"},
		{"store 1 0 1.2; 9.1", as(2), "2x0.2+ 2w1.1+"}, {"store 1 0 1.2; 9.3", as(2), "2x0.2+ 2w1.3-"}, {"store 1 0 1.2; 9.3", as(3), "3x0.2+ 3w1.3+"}, {"store 1 0 1.0; 9.3", as(3), "3x0.0-"}, {"load 1 0 1.3; 9.0", as(3), "3x0.3+ 3r1.0-"},
	})
}

// Outs with few and as many out as may be, to a device that may be written and one that may not.
func TestAccessesOfOuts(t *testing.T) {
	device := func(domain, tag int64, out int) func(s *impl.System) {
		return func(s *impl.System) { s.Active, s.Device, s.Out = domain, tag, make([]int64, out) }
	}
	words := "out 5 0 0.1; 9.1"
	wantAccessRows(t, []accessRow{
		{words, device(0, 1, 0), "0x0.1+ 0w-1.1+"}, {words, device(0, 2, 0), "0x0.1+ 0w-1.2-"}, {words, device(0, 3, 0), "0x0.1+ 0w-1.3-"},
		{words, device(0, 1, 39), "0x0.1+ 0w-1.1+"}, {words, device(0, 3, 39), "0x0.1+ 0w-1.3-"},
		{words, device(0, 1, 40), "0x0.1+"}, {words, device(0, 3, 40), "0x0.1+"},
		{words, device(3, 3, 39), "3x0.1+ 3w-1.3+"}, {words, device(3, 3, 40), "3x0.1+"}, {words, device(1, 1, 5), "1x0.1+ 1w-1.1-"}, {words, device(1, 2, 5), "1x0.1+ 1w-1.2+"},
		{"out 5 0 0.2; 9.1", device(0, 1, 0), "0x0.2-"}, {"out 5 0 0.0; 9.1", device(3, 1, 0), "3x0.0-"},
	})
}

// Every kind with each tag of its word, of what it asks for and of the device, by each domain.
func TestAccessesOfEachTag(t *testing.T) {
	base := system(t, "6:", "0.0; 9.0")
	for op := range int64(16) {
		for n := range int64(4 * 4 * 3 * 4) {
			for imm := range int64(3) {
				s := cloneSystem(base)
				s.Active, s.Device = n/48, 1+n/16%3
				s.Memory.Words = []impl.Word{{Value: op*4096 + 5*512 + 4*64 + imm, Tag: n % 4}, {Value: 9, Tag: n / 4 % 4}}
				who(&s).Regs[4] = (65536 + n%3 - imm) % 65536
				wantAccessesOf(t, s)
			}
		}
	}
}

// Every word there is, as an instruction of each domain.
func TestAccessesOfEachWord(t *testing.T) {
	base := system(t, "1: 017", "0.1; 11.1; 12.2; 13.3; 14.0; 65535.1; 16.2; 17.3")
	eachWord(func(w int64) {
		s := cloneSystem(base)
		at := w / 7 % 4
		s.Active, s.Device = w/2%4, 1+w/3%3
		s.Memory.Words[at].Value = w
		who(&s).Pc, who(&s).Regs = at, []int64{0, 65535, 3, 65530, 1, 32768, 5, 65475}
		if w%5 == 0 {
			s.Out = make([]int64, 39+w/2%2)
		}
		wantAccessesOf(t, s)
	})
}

// What is asked for is done where the step is, and the step is denied where something that is asked for is not.
func TestAccessesOfAreWhatTheStepDoes(t *testing.T) {
	kinds := map[int64]int{}
	for _, s := range wholes(t) {
		kinds[wantStepAsAsked(t, s, wantAccessesOf(t, s), impl.StepSystem(s, 0))]++
	}
	for _, kind := range []int64{impl.OutDone, impl.OutDenied, impl.OutCall, impl.OutIdle} {
		if kinds[kind] == 0 {
			t.Errorf("no step that is %s: %v", kindTold(kind), kinds)
		}
	}
}

// wantStepAsAsked answers the kind of the step.
func wantStepAsAsked(t *testing.T, s impl.System, asked []impl.Access, step impl.WholeResult) int64 {
	t.Helper()
	refused := slices.ContainsFunc(asked, func(a impl.Access) bool { return !a.Done })
	switch step.Kind {
	case impl.OutDone, impl.OutCall:
		if refused || len(asked) == 0 {
			t.Errorf("%v: a step that is %s asks for %v", s, kindTold(step.Kind), asked)
		}
	case impl.OutIdle:
		if len(asked) != 0 {
			t.Errorf("%v: a step that is idle asks for %v", s, asked)
		}
	}
	if refused && step.Kind != impl.OutDenied {
		t.Errorf("%v: a step that is %s asks for %v", s, kindTold(step.Kind), asked)
	}
	tags := map[int64]bool{}
	for _, a := range asked {
		tags[a.Tag] = true
	}
	if step.Misses > int64(len(tags)) {
		t.Errorf("%v: a step misses %d times, and asks for %v", s, step.Misses, asked)
	}
	return step.Kind
}

// rightBits are the three bits, and numbers that are none of them: all of these but MayWrite are asked as one that reads.
func rightBits() []int64 {
	return append(farNumbers(), -1, 0, 1, 2, 3, 4, 5, 6, 7, 8, 1<<32+2, 1<<8+2, -3)
}

func TestIsRightRows(t *testing.T) {
	s := system(t, "6: 017", "set 1 0 5.1")
	s.Active = 1
	// Of each domain and tag, as the labels tell it: whether it may write, and whether it may do anything else.
	may := []string{"-- wr -- -r", "-- -r wr -r", "-- wr wr -r", "-- wr wr wr"}
	for domain, row := range may {
		for tag, told := range strings.Fields(row) {
			for _, bit := range rightBits() {
				for _, at := range []int64{0, -1, 31, 65536, math.MinInt64, math.MaxInt64} {
					a := impl.Access{Domain: int64(domain), Bit: bit, At: at, Tag: int64(tag), Done: true}
					wantRight(t, s, a, bit == 2 && told[0] == 'w' || bit != 2 && told[1] == 'r')
					a.Done = false
					wantRight(t, s, a, true)
				}
			}
		}
	}
}

// Of a domain or a tag that is none nothing is right, be it done or not.
func TestIsRightOfNone(t *testing.T) {
	for _, s := range append(goodSystems(t), sevenTags(t, "0.1")) {
		domains, tags := int64(len(s.Tables.Domains)), int64(len(s.Tables.Tags))
		for _, done := range []bool{true, false} {
			for _, bit := range []int64{0, 1, 2, 4, 7, -1} {
				for _, none := range append(farNumbers(), -1, domains, domains+1) {
					wantRight(t, s, impl.Access{Domain: none, Bit: bit, Tag: 1, Done: done}, false)
					wantRight(t, s, impl.Access{Domain: none, Bit: bit, Tag: 0, Done: done}, false)
				}
				for _, none := range append(farNumbers(), -1, tags+1, tags+2, 7, 8) {
					wantRight(t, s, impl.Access{Domain: 0, Bit: bit, Tag: none, Done: done}, false)
					wantRight(t, s, impl.Access{Domain: domains - 1, Bit: bit, Tag: none, Done: done}, false)
				}
				for _, tag := range []int64{0, tags} {
					a := impl.Access{Domain: domains - 1, Bit: bit, Tag: tag, Done: done}
					wantRight(t, s, a, plainRight(s, a))
				}
			}
			wantRight(t, s, impl.Access{Domain: domains, Bit: 1, Tag: tags + 1, Done: done}, false)
		}
	}
}

// Of all labels that a domain and a tag can have.
func TestIsRightOfLabels(t *testing.T) {
	owners, things := labelsTold(t)
	want := func(who, what impl.Label) {
		s := twoTags(t, who, what, label(t, "1111"))
		for _, bit := range []int64{impl.MayRead, impl.MayWrite, impl.MayRun, 0} {
			for _, tag := range []int64{1, 2} {
				a := impl.Access{Bit: bit, Tag: tag, Done: true}
				wantRight(t, s, a, plainRight(s, a))
				a.Done = false
				wantRight(t, s, a, true)
			}
		}
	}
	eachOwner(func(who impl.Label) {
		for _, what := range things {
			want(who, what)
		}
	})
	eachThing(func(what impl.Label) {
		for _, who := range owners {
			want(who, what)
		}
	})
}

func TestSwitchDomain(t *testing.T) {
	for _, s := range wholes(t)[:120] {
		for domain := range int64(len(s.Contexts)) {
			got := impl.SwitchDomain(s, domain)
			wantCall(t, fmt.Sprintf("to %d from %d", domain, s.Active), got, impl.CallResult{Said: s.Active, System: turned(s, acts(domain))})
			again := impl.SwitchDomain(got.System, s.Active)
			wantCall(t, fmt.Sprintf("to %d and back", domain), again, impl.CallResult{Said: domain, System: s})
		}
		for _, domain := range append(farNumbers(), -1, int64(len(s.Contexts)), int64(len(s.Contexts))+1, 4, 5) {
			wantNoCall(t, fmt.Sprintf("to %d of %d", domain, len(s.Contexts)), impl.SwitchDomain(s, domain), impl.ErrNone)
			wantNoRun(t, fmt.Sprintf("an event to %d of %d", domain, len(s.Contexts)), impl.DoEvent(s, impl.Event{Kind: 2, N: domain}), impl.ErrNone)
			wantNoRun(t, fmt.Sprintf("a run to %d of %d", domain, len(s.Contexts)), impl.RunSystem(s, []impl.Event{{Kind: 2, N: domain}}), impl.ErrNone)
		}
	}
	first, last := impl.SwitchDomain(system(t, "6: 017", "0.1"), 0), impl.SwitchDomain(system(t, "6: 017", "0.1"), 3)
	if first.Said != 0 || first.System.Active != 0 || last.Said != 0 || last.System.Active != 3 {
		t.Errorf("%v, %v", first, last)
	}
}

// runRow is what events do to a system in which domain 0 is active, where nothing else is set: what is told of it, the cache
// behind it, and what else turns.
type runRow struct {
	name         string
	lines, words string
	set          func(s *impl.System)
	events       string
	steps        int64
	misses       int64
	accesses     string
	after        string
	turns        func(s *impl.System)
}

// One event is asked of DoEvent, too.
func wantRunRows(t *testing.T, rows []runRow) {
	t.Helper()
	for _, row := range rows {
		s := system(t, row.lines, row.words)
		if row.set != nil {
			row.set(&s)
		}
		if code := impl.SystemFault(s); code != impl.OK {
			t.Fatalf("%s: the fault %d", row.name, code)
		}
		want := impl.RunResult{Steps: row.steps, Misses: row.misses, Accesses: accesses(t, row.accesses), System: turned(s, row.turns)}
		want.System.Cache = cache(t, row.after)
		what, list := fmt.Sprintf("%s, with %q: %s", row.name, row.lines, row.events), events(t, row.events)
		wantRun(t, what, impl.RunSystem(s, list), want)
		if len(list) == 1 {
			wantRun(t, what+", alone", impl.DoEvent(s, list[0]), want)
		}
	}
}

// Runs that come to an end, and those that don't. The fourth step of the first program is idle.
func TestRunOfSteps(t *testing.T) {
	words := "set 1 0 5.1; store 1 0 2.1; 9.1"
	set := next(func(c *impl.Context) { c.Regs[1] = 5 })
	stored := func(s *impl.System) { s.Memory.Words[2].Value, who(s).Regs[1], who(s).Pc = 5, 5, 2 }
	all := func(s *impl.System) {
		stored(s)
		who(s).Halted = true
	}
	asked := "0x0.1+ 0x1.1+ 0w2.1+ 0x2.1+"
	loops := func(many int) string { return strings.Repeat("0x0.1+ ", many) }
	wantRunRows(t, []runRow{
		{"one step", "6:", words, nil, "run 1 0", 1, 1, "0x0.1+", "6: 017", set},
		{"one step, known", "6: 017", words, nil, "run 1 0", 1, 0, "0x0.1+", "6: 017", set},
		{"two steps", "6:", words, nil, "run 2 0", 2, 1, "0x0.1+ 0x1.1+ 0w2.1+", "6: 017", stored},
		{"up to its halt", "6:", words, nil, "run 3 0", 3, 1, asked, "6: 017", all},
		{"idle at its last step", "6:", words, nil, "run 4 0", 4, 1, asked, "6: 017", all},
		{"idle in its midst", "6:", words, nil, "run 5 0", 4, 1, asked, "6: 017", all},
		{"idle long ahead of its end", "6:", words, nil, "run 30 999", 4, 1, asked, "6: 017", all},
		{"of no room", "0:", words, nil, "run 30 0", 4, 3, asked, "0:", all},
		{"idle, and idle again", "6:", words, nil, "run 30 0; run 30 0; run 1 0", 6, 1, asked, "6: 017", all},
		{"step by step", "6:", words, nil, "run 1 0; run 1 0; run 1 0; run 1 0", 4, 1, asked, "6: 017", all},
		{"idle at once", "6: 017", words, halts, "run 1 0", 1, 0, "", "6: 017", nothing},
		{"idle at once, of many", "1: 115", words, halts, "run 30 999", 1, 0, "", "1: 115", nothing},
		{"idle at once where there is no word", "0:", words, func(s *impl.System) { who(s).Halted, who(s).Pc = true, 65535 }, "run 2 0", 1, 0, "", "0:", nothing},
		// Who is denied is halted, and idle then.
		{"denied", "6:", "load 1 0 1.1; 9.2", nil, "run 9 0", 2, 2, "0x0.1+ 0r1.2-", "6: 017 020", halts},
		{"denied at the last step", "6:", "load 1 0 1.1; 9.2", nil, "run 1 0", 1, 2, "0x0.1+ 0r1.2-", "6: 017 020", halts},
		{"denied its word", "6:", "set 1 0 5.2", nil, "run 9 0", 2, 1, "0x0.2-", "6: 020", halts},
		{"denied the monitor's word", "6:", "set 1 0 5.0", nil, "run 9 0", 2, 1, "0x0.0-", "6: 000", halts},
		{"beyond the last word", "6:", "set 1 0 5.1", nil, "run 9 0", 3, 1, "0x0.1+", "6: 017", func(s *impl.System) { who(s).Regs[1], who(s).Pc, who(s).Halted = 5, 1, true }},
		{"without a word", "6:", "set 1 0 5.1", func(s *impl.System) { s.Memory.Words = nil }, "run 9 0", 2, 0, "", "6:", halts},
		{"of no kind", "6:", "bad11 0 0 0.1", nil, "run 9 0", 2, 1, "0x0.1+", "6: 017", halts},
		// A run that goes on.
		{"as long as may be", "6:", "jump 0 0 0.1", nil, "run 30 0", 30, 1, loops(30), "6: 017", nothing},
		{"longer", "0:", "jump 0 0 0.1", nil, "run 30 0; run 30 7; run 29 999", 89, 89, loops(89), "0:", nothing},
		{"as long and as often as may be", "1:", "jump 0 0 0.1", nil, strings.Repeat("run 30 5; ", 20), 600, 1, loops(600), "1: 017", nothing},
		{"and of two words", "0:", "store 5 0 2.1; jump 0 0 0.1; 5.1", nil, strings.Repeat("run 30 5; ", 20), 600, 600, strings.Repeat("0x0.1+ 0w2.1+ 0x1.1+ ", 300), "0:", nothing},
	})
}

// Each step picks by one more than the one ahead of it, from the event's Pick on, in each event anew. Two words of two tags
// come in turn, so that with room for one line a second one is there at every step that misses, but the first.
func TestRunPicks(t *testing.T) {
	words, asked := "jump 0 0 1.1; jump 0 0 0.3", "0x0.1+ 0x1.3+ 0x0.1+ 0x1.3+"
	row := func(lines, events string, steps, misses int64, after string) runRow {
		turns := func(s *impl.System) { who(s).Pc = steps % 2 }
		return runRow{"two words", lines, words, nil, events, steps, misses, strings.Join(strings.Fields(asked)[:steps], " "), after, turns}
	}
	wantRunRows(t, []runRow{
		row("1:", "run 1 0", 1, 1, "1: 017"), row("1:", "run 1 1", 1, 1, "1: 017"),
		row("1:", "run 2 0", 2, 2, "1: 017"), row("1:", "run 2 1", 2, 2, "1: 035"), row("1:", "run 2 2", 2, 2, "1: 017"), row("1:", "run 2 998", 2, 2, "1: 017"), row("1:", "run 2 999", 2, 2, "1: 035"),
		row("1:", "run 3 0", 3, 2, "1: 017"), row("1:", "run 3 1", 3, 3, "1: 035"),
		row("1:", "run 4 0", 4, 3, "1: 017"), row("1:", "run 4 1", 4, 3, "1: 035"), row("1:", "run 4 999", 4, 3, "1: 035"),
		row("1:", "run 1 0; run 1 0", 2, 2, "1: 035"), row("1:", "run 1 0; run 1 1", 2, 2, "1: 017"), row("1:", "run 1 5; run 1 4", 2, 2, "1: 035"),
		row("1:", "run 1 0; run 1 0; run 1 0; run 1 0", 4, 4, "1: 035"), row("1:", "run 2 0; run 2 0", 4, 3, "1: 017"), row("1:", "run 2 1; run 2 1", 4, 3, "1: 035"), row("1:", "run 3 0; run 1 0", 4, 3, "1: 035"),
		// An evict between makes it miss again, and no more than that.
		row("1:", "run 1 0; evict 0; run 1 0", 2, 2, "1: 035"), row("2:", "run 2 0; evict 0; run 2 0", 4, 3, "2: 035 017"), row("2:", "run 2 0; evict 1; run 2 0", 4, 3, "2: 017 035"), row("2:", "run 2 0; evict 0; evict 7; run 2 0", 4, 4, "2: 017 035"),
		row("2:", "run 4 0", 4, 2, "2: 017 035"), row("0:", "run 4 0", 4, 4, "0:"),
	})
}

// Switches and evicts do no step and ask for nothing.
func TestRunOfSwitchesAndEvicts(t *testing.T) {
	words, lines := "set 1 0 5.1; 9.2", "3: 017 115 217"
	row := func(set func(s *impl.System), events, lines, after string, turns func(s *impl.System)) runRow {
		return runRow{"no step", lines, words, set, events, 0, 0, "", after, turns}
	}
	wantRunRows(t, []runRow{
		row(nil, "", lines, lines, nothing), row(halts, "", "0:", "0:", nothing),
		row(nil, "switch 0", lines, lines, nothing), row(nil, "switch 1", lines, lines, acts(1)), row(nil, "switch 3", lines, lines, acts(3)),
		row(acts(3), "switch 0", lines, lines, acts(0)), row(acts(3), "switch 3", "0:", "0:", nothing), row(halts, "switch 2", lines, lines, acts(2)),
		row(nil, "switch 1; switch 2", lines, lines, acts(2)), row(nil, "switch 3; switch 0", lines, lines, nothing),
		row(nil, "evict 0", lines, "3: 115 217", nothing), row(nil, "evict 1", lines, "3: 017 217", nothing), row(nil, "evict 2", lines, "3: 017 115", nothing), row(nil, "evict 3", lines, "3: 115 217", nothing),
		row(nil, "evict 998", lines, "3: 017 115", nothing), row(nil, "evict 999", lines, "3: 115 217", nothing), row(halts, "evict 1", lines, "3: 017 217", nothing),
		row(nil, "evict 0", "3:", "3:", nothing), row(nil, "evict 999", "0:", "0:", nothing), row(nil, "evict 5", "6: 017", "6:", nothing),
		row(nil, "evict 0; evict 0", lines, "3: 217", nothing), row(nil, "evict 1; evict 1", lines, "3: 017", nothing), row(nil, "evict 2; evict 0; evict 1; evict 7", lines, "3:", nothing),
		row(nil, strings.Repeat("switch 2; evict 0; ", 10), lines, "3:", acts(2)),
	})
}

// Events of several kinds: who is switched to goes on where it was.
func TestRunOfSeveralKinds(t *testing.T) {
	words := "set 1 0 4.1; store 1 0 5.1; load 2 0 6.1; halt 0 0 0.1; 0.1; 0.1; 77.2"
	zero := func(s *impl.System) {
		for domain := range s.Contexts {
			s.Contexts[domain].Regs[0] = 0
		}
	}
	zeroAll := func(s *impl.System) { s.Memory.Words[5].Value = 4 }
	denied := func(s *impl.System) {
		zeroAll(s)
		s.Contexts[0].Regs[1], s.Contexts[0].Pc, s.Contexts[0].Halted = 4, 2, true
	}
	first := "0x0.1+ 0x1.1+ 0w5.1+ 0x2.1+ 0r6.2-"
	wantRunRows(t, []runRow{
		{"one behind the other", "2:", words, zero, "run 9 1; switch 3; evict 0; run 3 0", 7, 4, first + " 3x0.1+ 3x1.1+ 3w5.1+ 3x2.1+ 3r6.2+", "2: 020 317", func(s *impl.System) {
			denied(s)
			s.Contexts[3].Regs[1], s.Contexts[3].Regs[2], s.Contexts[3].Pc, s.Active = 4, 77, 3, 3
		}},
		{"by turns", "6:", words, zero, "run 1 0; switch 3; run 1 0; switch 0; run 1 0; switch 3; run 1 0; switch 0; run 2 0", 6, 3, "0x0.1+ 3x0.1+ 0x1.1+ 0w5.1+ 3x1.1+ 3w5.1+ 0x2.1+ 0r6.2-", "6: 017 317 020", func(s *impl.System) {
			denied(s)
			s.Contexts[3].Regs[1], s.Contexts[3].Pc = 4, 2
		}},
		{"by one who may not", "1:", words, zero, "switch 1; run 9 0; evict 3; switch 0; run 2 0", 5, 2, "1x0.1+ 1x1.1+ 1w5.1- 0x0.1+ 0x1.1+ 0w5.1+", "1: 017", func(s *impl.System) {
			zeroAll(s)
			s.Contexts[0].Regs[1], s.Contexts[0].Pc = 4, 2
			s.Contexts[1].Regs[1], s.Contexts[1].Pc, s.Contexts[1].Halted = 4, 1, true
		}},
	})
}

// Calls within a run: what is asked for is told as it was ahead of the step, by the labels and the marks that were then.
func TestRunOfCalls(t *testing.T) {
	tainted := func(s *impl.System) {
		s.Tables = tables(t, "1:1111 3:1311 1:1*11 1:0000 1:**** | 0 1 3 | 1 1 2 4")
		who(s).Regs[1], who(s).Regs[0] = 2, 0
	}
	by := func(domain int64, r ...int64) func(s *impl.System) {
		return func(s *impl.System) {
			s.Active = domain
			copy(who(s).Regs, r)
		}
	}
	wantRunRows(t, []runRow{
		{"a taint", "6:", "set 1 0 2.1; call 0 0 1.1; out 1 0 0.1", nil, "run 5 0", 4, 2, "0x0.1+ 0x1.1+ 0x2.1+ 0w-1.1-", "6: 015", func(s *impl.System) {
			tainted(s)
			who(s).Pc, who(s).Halted = 2, true
		}},
		{"a taint, then a load", "2: 115 217", "set 1 0 2.1; call 0 0 1.1; load 4 0 3.1; 77.2", nil, "run 3 2", 3, 4, "0x0.1+ 0x1.1+ 0x2.1+ 0r3.2+", "2: 217 027", func(s *impl.System) {
			tainted(s)
			who(s).Regs[4], who(s).Pc = 77, 3
		}},
		// The word of the call itself is marked anew, and is nothing but a halt then.
		{"a retag", "6:", "call 0 0 2.1; jump 0 0 0.2", by(2, 9, 0, 1, 2), "run 5 0", 4, 2, "2x0.1+ 2x1.2+ 2x0.2+", "6: 217 227", func(s *impl.System) {
			s.Memory.Words[0], who(s).Regs[0], who(s).Halted = impl.Word{Tag: 2}, 0, true
		}},
		// Who enters a gate goes on; who is entered is not Active by that.
		{"a gate", "6:", "call 0 0 3.1; halt 0 0 0.1", by(0, 9, 0, 77), "run 1 0; switch 1; run 2 0", 3, 1, "0x0.1+", "6: 017", func(s *impl.System) {
			who(s).Pc, s.Active = 1, 1
			s.Contexts[1].Regs[1], s.Contexts[1].Pc, s.Contexts[1].Halted = 77, 8, true
		}},
		// One who was idle runs again, where another one opens it a gate.
		{"a gate to who is idle", "6:", "call 0 0 3.1; halt 0 0 0.1; 0.1; 0.1; 0.1; 0.1; 0.1; 0.1; set 3 0 9.2", func(s *impl.System) {
			by(0, 9, 0, 77)(s)
			s.Contexts[1].Halted = true
		}, "switch 1; run 4 0; switch 0; run 1 0; switch 1; run 1 0", 3, 2, "0x0.1+ 1x8.2+", "6: 017 127", func(s *impl.System) {
			s.Contexts[0].Pc, s.Active = 1, 1
			s.Contexts[1].Regs[1], s.Contexts[1].Regs[3], s.Contexts[1].Pc, s.Contexts[1].Halted = 77, 9, 9, false
		}},
	})
}

// An event with a code: whatever was done ahead of it, nothing but the code is told.
func TestRunCodes(t *testing.T) {
	s := system(t, "2: 017", "set 1 0 5.1; out 1 0 0.1; jump 0 0 0.1")
	good := events(t, "run 5 1; switch 3; evict 0; run 2 7; switch 0")
	wrong := append(wrongEvents(), events(t, "switch 4; switch -1; switch 9223372036854775807")...)
	codes := map[int64]int{}
	for n, e := range wrong {
		code := plainEventFault(e)
		if code == impl.OK {
			code = impl.ErrNone
		}
		codes[code]++
		what := fmt.Sprint(e)
		wantNoRun(t, what+", alone", impl.DoEvent(s, e), code)
		wantNoRun(t, what+", the only one", impl.RunSystem(s, []impl.Event{e}), code)
		for place := range len(good) + 1 {
			wantNoRun(t, fmt.Sprintf("%s at %d", what, place), impl.RunSystem(s, slices.Insert(slices.Clone(good), place, e)), code)
		}
		// The first one that is wrong is told.
		other := wrong[(n+7)%len(wrong)]
		wantNoRun(t, fmt.Sprintf("%s, then %v", what, other), impl.RunSystem(s, append(slices.Clone(good), e, other)), code)
		// As many as may be, and one more.
		many := slices.Repeat(good, 4)
		many[19] = e
		wantNoRun(t, what+" behind 19", impl.RunSystem(s, many), code)
		wantNoRun(t, what+" behind 20", impl.RunSystem(s, append(slices.Repeat(good, 4), e)), impl.ErrMany)
		wantNoRun(t, what+" 21 times", impl.RunSystem(s, slices.Repeat([]impl.Event{e}, 21)), impl.ErrMany)
	}
	if codes[impl.ErrForm] == 0 || codes[impl.ErrRange] == 0 || codes[impl.ErrNone] == 0 {
		t.Errorf("%v", codes)
	}
}

func TestRunOfAsManyAsMayBe(t *testing.T) {
	for _, s := range append(goodSystems(t), sevenTags(t, "load 1 0 1.1; jump 0 0 0.2")) {
		for _, e := range fewEvents()[:8] {
			if e.Kind == impl.EventSwitch && e.N >= int64(len(s.Contexts)) {
				continue
			}
			for _, many := range []int{0, 1, 2, 19, 20} {
				got := wantRunOf(t, s, slices.Repeat([]impl.Event{e}, many))
				if got.Code != impl.OK {
					t.Errorf("%d times %v: code %d", many, e, got.Code)
				}
			}
			for _, many := range []int{21, 22, 100, 1 << 16} {
				wantNoRun(t, fmt.Sprintf("%d times %v", many, e), impl.RunSystem(s, slices.Repeat([]impl.Event{e}, many)), impl.ErrMany)
			}
		}
	}
}

// A run is its steps one behind the other, up to the first that is idle; an evict and a switch are what they are by themselves.
func TestDoEventIsWhatItsPartsAre(t *testing.T) {
	source, all := rand.New(rand.NewSource(11)), runnable(t)
	ends := map[int64]int{}
	for range 1200 {
		s := busy(t, source, all)
		n, pick := 1+source.Int63n(30), source.Int63n(1000)
		want, kind := impl.RunResult{System: s}, int64(0)
		for want.Steps < n && kind != impl.OutIdle {
			want.Accesses = append(want.Accesses, impl.AccessesOf(want.System).Accesses...)
			step := impl.StepSystem(want.System, pick+want.Steps)
			want.Steps, want.Misses, want.System, kind = want.Steps+1, want.Misses+step.Misses, step.System, step.Kind
		}
		ends[kind]++
		wantRun(t, "a run", impl.DoEvent(s, impl.Event{Kind: 1, N: n, Pick: pick}), want)
		domain := source.Int63n(int64(len(s.Contexts)))
		wantRun(t, "a switch", impl.DoEvent(s, impl.Event{Kind: 2, N: domain}), impl.RunResult{System: impl.SwitchDomain(s, domain).System})
		evicted := turned(s, func(s *impl.System) { s.Cache = impl.EvictCache(s.Cache, pick).Cache })
		wantRun(t, "an evict", impl.DoEvent(s, impl.Event{Kind: 3, Pick: pick}), impl.RunResult{System: evicted})
		if t.Failed() {
			return
		}
	}
	for _, kind := range []int64{impl.OutDone, impl.OutDenied, impl.OutCall, impl.OutIdle} {
		if ends[kind] < 5 {
			t.Errorf("too few runs that end with a step that is %s: %v", kindTold(kind), ends)
		}
	}
}

// Runs of systems of all kinds, each held against what is told plainly, and cut at each place: the sums, the accesses one
// behind the other, and the last system are what they are in one.
func TestRunInTwoParts(t *testing.T) {
	source, all := rand.New(rand.NewSource(111)), runnable(t)
	steps, misses, most := int64(0), int64(0), int64(0)
	for range 2500 {
		s := busy(t, source, all)
		list := anyEvents(source, len(s.Contexts), source.Intn(21))
		whole := wantRunOf(t, s, list)
		for cut := range len(list) + 1 {
			if len(list) > 6 && source.Intn(3) > 0 {
				continue
			}
			first := impl.RunSystem(s, list[:cut])
			second := impl.RunSystem(first.System, list[cut:])
			wantRun(t, fmt.Sprintf("%v cut at %d", list, cut), behind(first, second), whole)
		}
		steps, misses, most = steps+whole.Steps, misses+whole.Misses, max(most, whole.Steps)
		if t.Failed() {
			return
		}
	}
	if steps < 20000 || misses < 5000 || most < 100 {
		t.Errorf("%d steps, %d misses, %d at most in one run", steps, misses, most)
	}
}

// One run of so many steps is two of fewer, where the second one picks as the first would have gone on; only where the first
// one was idle already the second one has its own idle step.
func TestOneRunInTwoParts(t *testing.T) {
	source, all := rand.New(rand.NewSource(112)), runnable(t)
	idle := 0
	for range 800 {
		s := busy(t, source, all)
		n, pick := 2+source.Int63n(29), source.Int63n(970)
		want, cut := impl.DoEvent(s, impl.Event{Kind: 1, N: n, Pick: pick}), 1+source.Int63n(n-1)
		first := impl.DoEvent(s, impl.Event{Kind: 1, N: cut, Pick: pick})
		second := impl.DoEvent(first.System, impl.Event{Kind: 1, N: n - cut, Pick: pick + cut})
		if want.Steps <= cut {
			idle++
			want.Steps++
		}
		wantRun(t, fmt.Sprintf("%d steps in %d and %d", n, cut, n-cut), behind(first, second), want)
		if t.Failed() {
			return
		}
	}
	if idle < 50 || idle > 750 {
		t.Errorf("%d of 800 were idle in the first part", idle)
	}
}

// Each access of a run is right in the system ahead of its step, and those of all steps are those of the run.
func TestRunAccessesAreRight(t *testing.T) {
	source, all := rand.New(rand.NewSource(113)), runnable(t)
	done, refused := map[int64]int{}, map[int64]int{}
	for range 3500 {
		s := busy(t, source, all)
		list := anyEvents(source, len(s.Contexts), 1+source.Intn(6))
		got, asked, now := impl.RunSystem(s, list), []impl.Access{}, s
		for _, e := range list {
			if e.Kind != impl.EventRun {
				now = impl.DoEvent(now, e).System
				continue
			}
			for n, kind := int64(0), int64(0); n < e.N && kind != impl.OutIdle; n++ {
				ahead, step := wantAccessesOf(t, now), impl.StepSystem(now, e.Pick+n)
				kind = wantStepAsAsked(t, now, ahead, step)
				asked, now = append(asked, ahead...), step.System
			}
		}
		if !slices.Equal(got.Accesses, asked) {
			t.Errorf("%v of %v: %v; want %v", list, s, got.Accesses, asked)
		}
		if t.Failed() {
			return
		}
		for _, a := range asked {
			if a.Done {
				done[a.Bit]++
			} else {
				refused[a.Bit]++
			}
		}
	}
	for _, bit := range []int64{impl.MayRead, impl.MayWrite, impl.MayRun} {
		if done[bit] < 100 || refused[bit] < 30 {
			t.Errorf("too few accesses with the bit %d: %v and %v", bit, done, refused)
		}
	}
}

// Whatever the cache is at first, of whatever size, and whatever is picked and evicted.
func TestRunWhateverTheCacheIs(t *testing.T) {
	source, all := rand.New(rand.NewSource(114)), runnable(t)
	misses := map[bool]int{}
	for range 1500 {
		s := busy(t, source, all)
		list := anyEvents(source, len(s.Contexts), source.Intn(9))
		bare := turned(s, func(s *impl.System) { s.Cache = impl.Cache{} })
		want := impl.RunSystem(bare, list)
		for range 6 {
			other, others := cloneSystem(s), otherEvicts(source, list)
			other.Cache = anyCache(source, s.Tables)
			got := impl.RunSystem(other, others)
			if !sameButTheCache(got, want) || got.System.Cache.Size != other.Cache.Size || impl.SystemFault(got.System) != impl.OK || got.Misses > want.Misses {
				t.Fatalf("%v of %v: %v; with a cache of none and %v: %v", others, other, got, list, want)
			}
			misses[got.Misses < want.Misses]++
		}
	}
	if misses[true] < 1000 || misses[false] < 1000 {
		t.Errorf("%v", misses)
	}
}

// otherEvicts has other picks, and evicts that are gone or come anywhere; of switches and runs all is the same.
func otherEvicts(source *rand.Rand, list []impl.Event) []impl.Event {
	others := []impl.Event{}
	for _, e := range list {
		if e.Kind == impl.EventEvict && source.Intn(2) == 0 {
			continue
		}
		if e.Kind != impl.EventSwitch {
			e.Pick = source.Int63n(1000)
		}
		others = append(others, e)
	}
	for range source.Intn(6) {
		others = slices.Insert(others, source.Intn(len(others)+1), impl.Event{Kind: impl.EventEvict, Pick: source.Int63n(1000)})
	}
	return others
}

// Of a small program to its end, with each size and each pick, and an evict between all steps: who was tainted can't let go out
// what it read any more.
func TestRunOfAProgram(t *testing.T) {
	for size := range int64(7) {
		for _, pick := range []int64{0, 1, 2, 3, 5, 7, 998, 999} {
			s := system(t, "0:", "set 1 0 2.1; call 0 0 1.1; load 4 0 8.1; store 4 0 9.1; out 4 0 0.1; 0.1; 0.1; 0.1; 1234.2; 0.2")
			s.Cache.Size, s.Contexts[0].Regs[0] = size, 0
			single := slices.Repeat([]impl.Event{{Kind: 1, N: 1, Pick: pick}, {Kind: 3, Pick: pick}}, 6)
			want := impl.RunResult{Steps: 6, Accesses: accesses(t, "0x0.1+ 0x1.1+ 0x2.1+ 0r8.2+ 0x3.1+ 0w9.2+ 0x4.1+ 0w-1.1-"), System: turned(s, func(s *impl.System) {
				s.Tables = tables(t, "1:1111 3:1311 1:1*11 1:0000 1:**** | 0 1 3 | 1 1 2 4")
				s.Memory.Words[9].Value = 1234
				s.Contexts[0] = impl.Context{Regs: []int64{0, 2, 2, 3, 1234, 5, 6, 7}, Pc: 4, Halted: true}
			})}
			for _, list := range [][]impl.Event{{{Kind: 1, N: 6, Pick: pick}}, {{Kind: 1, N: 30, Pick: pick}}, {{Kind: 1, N: 2, Pick: pick}, {Kind: 3, Pick: pick}, {Kind: 1, N: 9, Pick: pick}}, single} {
				if got := wantRunOf(t, s, list); !sameButTheCache(got, want) {
					t.Errorf("size %d, %v: %v; want %v", size, list, got, want)
				}
			}
		}
	}
}
