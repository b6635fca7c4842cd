package tests

// Promise 1, for runs: every function answers at every argument, ends, and changes none; what it answers is new memory; it
// hangs on the arguments alone.

import (
	"fmt"
	"math"
	"math/rand"
	"slices"
	"strings"
	"testing"

	"loop.example/g00530/impl"
)

func asksAccesses() question {
	return question{"AccessesOf", func(s impl.System) any { return impl.AccessesOf(s) }}
}

func switches(domain int64) question {
	return question{fmt.Sprintf("SwitchDomain(%d)", domain), func(s impl.System) any { return impl.SwitchDomain(s, domain) }}
}

func does(e impl.Event) question {
	return question{fmt.Sprintf("DoEvent(%v)", e), func(s impl.System) any { return impl.DoEvent(s, e) }}
}

func runs(list ...impl.Event) question {
	return question{fmt.Sprintf("RunSystem(%v)", list), func(s impl.System) any { return impl.RunSystem(s, list) }}
}

func isRight(a impl.Access) question {
	return question{fmt.Sprintf("IsRight(%v)", a), func(s impl.System) any { return impl.IsRight(s, a) }}
}

// goodRuns answer a system each, whatever the system is, if it has no fault.
func goodRuns() []question {
	run, evict, first := impl.Event{Kind: 1, N: 6, Pick: 3}, impl.Event{Kind: 3, Pick: 1}, impl.Event{Kind: 2}
	return []question{switches(0), does(impl.Event{Kind: 1, N: 1}), does(run), does(first), does(evict), runs(), runs(run), runs(run, evict, first, run), runs(slices.Repeat([]impl.Event{run, evict}, 10)...)}
}

// runQuestions have each function, with what is right and with what is wrong.
func runQuestions() []question {
	list := append(goodRuns(), asksAccesses())
	for _, domain := range []int64{1, 3, 4, -1, math.MinInt64, math.MaxInt64} {
		list = append(list, switches(domain))
	}
	for _, e := range fewEvents() {
		list = append(list, does(e), runs(e), runs(impl.Event{Kind: 1, N: 2}, e), runs(slices.Repeat([]impl.Event{e}, 21)...))
	}
	for _, tag := range []int64{0, 1, 3, 6, 7, -1} {
		for _, bit := range []int64{1, 2, 4, 0} {
			list = append(list, isRight(impl.Access{Bit: bit, Tag: tag, Done: true}), isRight(impl.Access{Domain: 3, Bit: bit, At: -1, Tag: tag}))
		}
	}
	return append(list, isRight(impl.Access{Domain: -1, Tag: 1}), isRight(impl.Access{Domain: math.MaxInt64, Bit: math.MinInt64, At: math.MaxInt64, Tag: math.MinInt64, Done: true}))
}

func runAnswers(s impl.System) string {
	answers := []string{}
	for _, q := range runQuestions() {
		answers = append(answers, told(q.ask(s)))
	}
	return strings.Join(answers, "; ")
}

// runsOf are systems of which runs are asked: some of each kind of step, and ones that go on.
func runsOf(t *testing.T) []impl.System {
	t.Helper()
	list := []impl.System{}
	for n, s := range wholes(t) {
		if n%3 == 0 {
			list = append(list, s)
		}
	}
	source, all := rand.New(rand.NewSource(115)), runnable(t)
	for range 40 {
		list = append(list, busy(t, source, all))
	}
	return list
}

// runsOfAndNot are right ones, and wrong ones of each kind.
func runsOfAndNot(t *testing.T) []impl.System {
	t.Helper()
	list := runsOf(t)
	for n, f := range faultySystems(t) {
		if n%97 == 0 {
			list = append(list, f.system)
		}
	}
	return append(list, impl.System{})
}

// wantRunsRefused asks all functions of a system with a fault: it is told whatever else is asked, right or wrong, and alone.
func wantRunsRefused(t *testing.T, f faultySystem) {
	t.Helper()
	wantNoAccesses(t, f.name, impl.AccessesOf(f.system), f.code)
	for _, domain := range []int64{0, 9} {
		wantNoCall(t, fmt.Sprintf("a switch to %d: %s", domain, f.name), impl.SwitchDomain(f.system, domain), f.code)
	}
	for _, e := range []impl.Event{{Kind: 1, N: 3}, {Kind: 2}, {Kind: 3}, {Kind: 2, N: 9}, {}, {Kind: 1}, {Kind: 3, Pick: -1}} {
		wantNoRun(t, fmt.Sprintf("%v: %s", e, f.name), impl.DoEvent(f.system, e), f.code)
		wantNoRun(t, fmt.Sprintf("%v, in a list: %s", e, f.name), impl.RunSystem(f.system, []impl.Event{e}), f.code)
	}
	wantNoRun(t, "no events: "+f.name, impl.RunSystem(f.system, nil), f.code)
	wantNoRun(t, "many events: "+f.name, impl.RunSystem(f.system, make([]impl.Event, 21)), f.code)
	for _, done := range []bool{true, false} {
		if a := (impl.Access{Bit: 1, Tag: 1, Done: done}); impl.IsRight(f.system, a) {
			t.Errorf("%v is right: %s", a, f.name)
		}
	}
}

func TestRunFaultsComeFirst(t *testing.T) {
	for _, f := range faultySystems(t) {
		wantRunsRefused(t, f)
	}
	many := 0
	eachManyFaulty(t, func(f faultySystem) {
		many++
		if many%11 == 0 {
			wantRunsRefused(t, f)
		}
	})
}

// One who is halted is not answered either where the system has a fault.
func TestRunFaultsOfOneWhoIsHalted(t *testing.T) {
	for n, f := range faultySystems(t) {
		if n%3 != 0 {
			continue
		}
		now := cloneSystem(f.system)
		for domain := range now.Contexts {
			now.Contexts[domain].Halted = true
		}
		wantRunsRefused(t, faultySystem{"halted: " + f.name, now, f.code})
	}
}

// Each list is told as nil, and as an empty one behind which memory lies.
func TestRunNilIsEmpty(t *testing.T) {
	for _, base := range []impl.System{system(t, "0:", "load 1 0 1.1; 9.3"), gated(t, 3), sevenTags(t, "out 5 0 0.1"), systemOf(tables(t, "1:1111 - 1:1311 - | 2 | 0"), impl.Word{Tag: 1})} {
		for name, turn := range emptyLists() {
			none := turned(base, func(s *impl.System) { turn(s, false) })
			empty := turned(base, func(s *impl.System) { turn(s, true) })
			if a, b := runAnswers(none), runAnswers(empty); a != b {
				t.Errorf("%s: without a list %s, with an empty one %s", name, a, b)
			}
		}
		for _, list := range [][]impl.Event{nil, {}, make([]impl.Event, 3)[:0]} {
			wantRun(t, "no events", impl.RunSystem(base, list), impl.RunResult{System: base})
		}
	}
}

// Neither a system nor a list of events is changed, be what lies behind the ends of their lists as it may.
func TestRunArgumentsStay(t *testing.T) {
	source := rand.New(rand.NewSource(116))
	for _, given := range runsOfAndNot(t) {
		s := roomySystem(given)
		was := wholeTold(s)
		for _, q := range runQuestions() {
			q.ask(s)
		}
		for _, list := range [][]impl.Event{anyEvents(source, max(1, len(s.Contexts)), 9), fewEvents(), make([]impl.Event, 21)} {
			list = roomyList(list, impl.Event{Kind: 1, N: 3}, impl.Event{Kind: 77, N: 78, Pick: 79})
			listWas := wholeTold(list)
			impl.RunSystem(s, list)
			if now := wholeTold(list); now != listWas {
				t.Fatalf("%s became %s", listWas, now)
			}
		}
		if now := wholeTold(s); now != was {
			t.Fatalf("%s became %s", was, now)
		}
	}
}

// What lies behind the end of a list is no part of it: the answers are those of a list that ends there.
func TestRunAnswersHangOnNoCapacity(t *testing.T) {
	source := rand.New(rand.NewSource(117))
	for _, given := range runsOfAndNot(t) {
		if a, b := runAnswers(roomySystem(given)), runAnswers(given); a != b {
			t.Errorf("%v: with memory behind it %s, else %s", given, a, b)
		}
		list := anyEvents(source, max(1, len(given.Contexts)), 1+source.Intn(20))
		roomy := roomyList(list, impl.Event{Kind: 1, N: 3}, impl.Event{})
		if a, b := impl.RunSystem(given, roomy), impl.RunSystem(given, slices.Clip(list)); !sameRun(a, b) {
			t.Errorf("%v of %v: with events behind them %v, else %v", list, given, a, b)
		}
	}
}

// An answer shares no memory with the system, with another answer, or with itself, whatever happened.
func TestRunAnswersAreNewMemory(t *testing.T) {
	for _, given := range runsOf(t) {
		s := roomySystem(given)
		for _, q := range append(goodRuns(), asksAccesses()) {
			wantApart(t, q.name, q.ask(s), s, q.ask(s))
		}
	}
}

// Lists of a system that share memory are apart in what is answered: what turns for one does not turn the others.
func TestRunListsThatWereShared(t *testing.T) {
	for _, words := range []string{"set 1 0 5.1; 9.1", "out 1 0 0.1; 9.1", "store 5 0 1.1; 9.1", "halt 0 0 0.1; 9.1", "load 5 0 1.1; 9.3", "bad11 0 0 0.1; 9.1", "call 0 0 1.1; 9.1", "call 0 0 2.1; 9.1", "call 0 0 3.1; 9.1"} {
		for _, lines := range []string{"0:", "1: 115", allOfZero} {
			s := system(t, lines, words)
			shared := []int64{0, 1, 3, 0, 0, 0, 0, 0}
			for domain := range s.Contexts {
				s.Contexts[domain].Regs = shared
			}
			s.Out, s.Tables.Tags = shared[1:3], shared[:3]
			was := wholeTold(s)
			for _, q := range goodRuns() {
				wantApart(t, q.name+": "+words, q.ask(s), s)
			}
			wantRunOf(t, s, events(t, "run 2 0; switch 1; run 1 3; evict 0; switch 0; run 3 1"))
			wantEventOf(t, s, impl.Event{Kind: 1, N: 4, Pick: 2})
			wantCall(t, words, impl.SwitchDomain(s, 2), plainSwitch(s, 2))
			if wholeTold(s) != was {
				t.Fatalf("%s: %s became %s", words, was, wholeTold(s))
			}
		}
	}
}

// systemIn is the system of an answer of goodRuns.
func systemIn(t *testing.T, answer any) impl.System {
	t.Helper()
	switch a := answer.(type) {
	case impl.CallResult:
		return a.System
	case impl.RunResult:
		return a.System
	}
	t.Fatalf("%T has no system", answer)
	return impl.System{}
}

// An answer stays as it is when what was handed in is turned afterwards, and the other way round.
func TestRunAnswersStay(t *testing.T) {
	for _, given := range runsOf(t) {
		for _, q := range goodRuns() {
			s := roomySystem(given)
			was := wholeTold(s)
			scrub(systemIn(t, q.ask(s)))
			if wholeTold(s) != was {
				t.Fatalf("by what was done with the answer of %s %s became %s", q.name, was, wholeTold(s))
			}
			answer := q.ask(s)
			answerWas := wholeTold(answer)
			scrub(s)
			if wholeTold(answer) != answerWas {
				t.Fatalf("by what was done with the system the answer of %s, %s, became %v", q.name, answerWas, answer)
			}
		}
	}
}

// What is done with a system that was answered does not turn another one that was answered from it.
func TestRunAnswersBranch(t *testing.T) {
	s := system(t, "2:", "set 1 0 5.1; out 1 0 0.1; store 1 0 3.1; 9.1; out 7 0 0.1")
	first := impl.DoEvent(s, impl.Event{Kind: 1, N: 1})
	was := told(first)
	second := impl.RunSystem(first.System, events(t, "run 1 0; run 1 0"))
	other := impl.SwitchDomain(first.System, 3).System
	evicted := impl.DoEvent(first.System, impl.Event{Kind: 3}).System
	if told(first) != was {
		t.Errorf("%s became %v", was, first)
	}
	for _, row := range []struct {
		name   string
		got    impl.System
		lines  string
		out    []int64
		last   int64
		active int64
	}{
		{"at first", s, "2:", []int64{7, 65535}, 9, 0},
		{"the first", first.System, "2: 017", []int64{7, 65535}, 9, 0},
		{"the second", second.System, "2: 017", []int64{7, 65535, 5}, 5, 0},
		{"switched", other, "2: 017", []int64{7, 65535}, 9, 3},
		{"evicted", evicted, "2:", []int64{7, 65535}, 9, 0},
	} {
		if cacheTold(row.got.Cache) != cacheTold(cache(t, row.lines)) || !slices.Equal(row.got.Out, row.out) || row.got.Memory.Words[3].Value != row.last || row.got.Active != row.active {
			t.Errorf("%s: %v", row.name, row.got)
		}
	}
}

// anything is an event that is right for so many domains, or whatever comes.
func anything(source *rand.Rand, domains int) impl.Event {
	number := func() int64 { return int64(source.Uint64()) >> source.Intn(64) }
	e := anyEvent(source, max(1, domains))
	switch source.Intn(9) {
	case 0:
		e.Kind = number()
	case 1:
		e.N = number()
	case 2:
		e.Pick = number()
	case 3:
		return impl.Event{Kind: number(), N: number(), Pick: number()}
	}
	return e
}

// Whatever comes in, each call is answered: by a code and nothing else, or by what is so.
func TestRunFunctionsAnswerAlways(t *testing.T) {
	source, all := rand.New(rand.NewSource(118)), runnable(t)
	number := func() int64 { return int64(source.Uint64()) >> source.Intn(64) }
	systems, answers := map[int64]int{}, map[int64]int{}
	for range 6000 {
		s := busy(t, source, all)
		if source.Intn(3) == 0 {
			spoil(&s, source)
		}
		list := []impl.Event{}
		for range source.Intn(4) * source.Intn(8) {
			list = append(list, anything(source, len(s.Contexts)))
		}
		domain, e := []int64{number(), source.Int63n(5)}[source.Intn(2)], anything(source, len(s.Contexts))
		a := impl.Access{Domain: []int64{number(), source.Int63n(4)}[source.Intn(2)], Bit: []int64{number(), source.Int63n(5)}[source.Intn(2)], At: number(), Tag: []int64{number(), source.Int63n(7)}[source.Intn(2)], Done: source.Intn(3) > 0}
		code := plainSystemFault(s)
		systems[code]++
		wantEventFault(t, e, plainEventFault(e))
		wantRight(t, s, a, plainRight(s, a))
		if code == impl.OK {
			wantAccessesOf(t, s)
			if got, want := impl.SwitchDomain(s, domain), plainSwitch(s, domain); !sameCall(got, want) {
				t.Errorf("a switch of %v to %d: %v; want %v", s, domain, got, want)
			}
			answers[wantEventOf(t, s, e).Code]++
			answers[wantRunOf(t, s, list).Code]++
		} else {
			wantRunsRefused(t, faultySystem{"spoilt", s, code})
			wantNoCall(t, "a switch", impl.SwitchDomain(s, domain), code)
			wantNoRun(t, "an event", impl.DoEvent(s, e), code)
			wantNoRun(t, "a run", impl.RunSystem(s, list), code)
		}
		if t.Failed() {
			return
		}
	}
	for _, code := range []int64{impl.OK, impl.ErrForm, impl.ErrMany, impl.ErrRange, impl.ErrNone} {
		if systems[code] < 20 || answers[code] < 20 {
			t.Errorf("too few systems, or answers, of code %d: %d and %d", code, systems[code], answers[code])
		}
	}
}

func TestRunAnswersHangOnArgumentsAlone(t *testing.T) {
	some := []impl.System{system(t, "1:", "load 1 0 1.1; 9.3"), gated(t, 2, impl.Gate{Domain: 2, Entry: 9}), sevenTags(t, "call 0 0 1.1; jump 0 0 0.2")}
	answers := func() string {
		all := []string{}
		for _, s := range some {
			all = append(all, runAnswers(s))
		}
		return strings.Join(all, " ")
	}
	was := answers()
	for n, other := range runsOfAndNot(t) {
		runAnswers(other)
		if n%8 != 0 {
			continue
		}
		if got := answers(); got != was {
			t.Fatalf("behind calls with %v the answers are %s, and were %s", other, got, was)
		}
	}
}
