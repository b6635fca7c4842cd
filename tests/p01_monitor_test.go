package tests

// Promise 1, for calls of the monitor: every function answers at every argument, ends, and changes none; what it answers is
// new memory; it hangs on the arguments alone.

import (
	"fmt"
	"math/rand"
	"strings"
	"testing"

	"loop.example/g00530/impl"
)

// fewAskings have each function, with what is right and with what is wrong for most systems.
func fewAskings() []asking {
	return []asking{
		asksTaint(1), asksTaint(0), asksTaint(-1),
		asksRetag(0, 1, 1), asksRetag(-1, 9, 0),
		asksGate(0, 77), asksGate(-1, 65536),
		asksCall(impl.CallTaint), asksCall(impl.CallRetag), asksCall(impl.CallGate), asksCall(impl.CallYield), asksCall(0), asksCall(5), asksCall(-1),
	}
}

// A fault of the system is told whatever is asked, be that right or wrong, and nothing else is told then.
func TestMonitorFaultsComeFirst(t *testing.T) {
	few := fewAskings()
	for _, f := range faultySystems(t) {
		for _, a := range few {
			wantNoCall(t, a.name+": "+f.name, a.ask(f.system), f.code)
		}
	}
	many := 0
	eachManyFaulty(t, func(f faultySystem) {
		many++
		a := few[many%len(few)]
		wantNoCall(t, a.name+": "+f.name, a.ask(f.system), f.code)
	})
}

// At one system of each fault all edges are asked, too.
func TestMonitorFaultsAtTheEdges(t *testing.T) {
	good := gated(t, 0, impl.Gate{Domain: 1, Entry: 8})
	known := map[int64]int{}
	for _, f := range faultySystems(t) {
		known[f.code]++
		if known[f.code]%40 != 1 {
			continue
		}
		for _, a := range askings(good) {
			wantNoCall(t, a.name+": "+f.name, a.ask(f.system), f.code)
		}
	}
	for _, code := range []int64{impl.ErrForm, impl.ErrMany, impl.ErrRange, impl.ErrNone, impl.ErrState} {
		if known[code] == 0 {
			t.Errorf("no system of code %d", code)
		}
	}
}

// monitorAnswers tells all that the functions answer for a system.
func monitorAnswers(s impl.System) string {
	answers := []string{}
	for _, a := range askings(s) {
		answers = append(answers, told(a.ask(s)))
	}
	return strings.Join(answers, "; ")
}

// monitoredAndNot are right ones, and wrong ones of each kind.
func monitoredAndNot(t *testing.T) []impl.System {
	t.Helper()
	list := monitored(t)
	for n, f := range faultySystems(t) {
		if n%31 == 0 {
			list = append(list, f.system)
		}
	}
	return append(list, impl.System{})
}

// Each list is told as nil, and as an empty one behind which memory lies.
func TestMonitorNilIsEmpty(t *testing.T) {
	for _, base := range []impl.System{gated(t, 0, impl.Gate{Domain: 1}), gated(t, 3), systemOf(tables(t, "1:1111 - 1:1311 - | 2 | 0"), impl.Word{Tag: 1})} {
		for name, turn := range emptyLists() {
			none := turned(base, func(s *impl.System) { turn(s, false) })
			empty := turned(base, func(s *impl.System) { turn(s, true) })
			if a, b := monitorAnswers(none), monitorAnswers(empty); a != b {
				t.Errorf("%s: without a list %s, with an empty one %s", name, a, b)
			}
		}
	}
}

func TestMonitorArgumentsStay(t *testing.T) {
	for _, given := range monitoredAndNot(t) {
		s := roomySystem(given)
		was := wholeTold(s)
		for _, a := range askings(s) {
			a.ask(s)
			if now := wholeTold(s); now != was {
				t.Fatalf("by %s %s became %s", a.name, was, now)
			}
		}
	}
}

// What lies behind the end of a list is no part of it: the answers are those of a list that ends there.
func TestMonitorAnswersHangOnNoCapacity(t *testing.T) {
	for _, given := range monitoredAndNot(t) {
		if a, b := monitorAnswers(roomySystem(given)), monitorAnswers(given); a != b {
			t.Errorf("%v: with memory behind it %s, else %s", given, a, b)
		}
	}
}

// An answer shares no memory with the system, with another answer, or with itself, be something done or nothing.
func TestMonitorAnswersAreNewMemory(t *testing.T) {
	for n, given := range monitored(t) {
		s := roomySystem(given)
		for k, a := range askings(s) {
			if (n+k)%3 == 0 {
				wantApart(t, a.name, a.ask(s), s, a.ask(s))
			}
		}
		for _, a := range fewAskings() {
			wantApart(t, a.name, a.ask(s), s, a.ask(s))
		}
	}
}

// Lists of a system that share memory are apart in what is answered: what turns for one does not turn the others.
func TestMonitorListsThatWereShared(t *testing.T) {
	for active := range int64(4) {
		s := gated(t, active, impl.Gate{Domain: 1, Entry: 8}, impl.Gate{Domain: active, Entry: 9})
		shared := []int64{0, 1, 3, 0, 0, 0, 0, 0}
		for domain := range s.Contexts {
			s.Contexts[domain].Regs = shared
		}
		s.Out, s.Tables.Tags = shared[1:3], shared[:3]
		was := wholeTold(s)
		for _, a := range append(askings(s), fewAskings()...) {
			wantApart(t, a.name, wantAsked(t, s, a), s)
			if wholeTold(s) != was {
				t.Fatalf("%s: %s became %s", a.name, was, wholeTold(s))
			}
		}
	}
}

// An answer stays as it is when what was handed in is turned afterwards, and the other way round.
func TestMonitorAnswersStay(t *testing.T) {
	for _, given := range monitored(t) {
		for _, a := range fewAskings() {
			s := roomySystem(given)
			was := wholeTold(s)
			scrub(a.ask(s).System)
			if wholeTold(s) != was {
				t.Fatalf("by what was done with the answer of %s %s became %s", a.name, was, wholeTold(s))
			}
			answer := a.ask(s)
			answerWas := wholeTold(answer)
			scrub(s)
			if wholeTold(answer) != answerWas {
				t.Fatalf("by what was done with the system the answer of %s, %s, became %v", a.name, answerWas, answer)
			}
		}
	}
}

// What is done with a system that was answered does not turn another one that was answered from it.
func TestMonitorAnswersBranch(t *testing.T) {
	s := impl.MakeCall(gated(t, 2, impl.Gate{Domain: 1, Entry: 8}), impl.CallYield).System
	was := told(s)
	first := impl.RetagSelf(s, 0, 1, 2).System
	firstWas := told(first)
	second := impl.RetagSelf(s, 0, 2, 1).System
	third := impl.EnterGate(first, 0, 77).System
	if told(s) != was || told(first) != firstWas {
		t.Errorf("%s became %v, %s became %v", was, s, firstWas, first)
	}
	for _, row := range []struct {
		name  string
		got   impl.System
		words string
		one   int64
	}{{"the first", first, "0.2 2.2 3.3 4.0 5.1 6.2", 101}, {"the second", second, "0.1 0.1 3.3 4.0 5.1 6.2", 101}, {"the third", third, "0.2 2.2 3.3 4.0 5.1 6.2", 77}} {
		if memoryTold(row.got.Memory) != row.words || row.got.Contexts[1].Regs[1] != row.one {
			t.Errorf("%s: %v", row.name, row.got)
		}
	}
}

// Whatever comes in, each call is answered: by a code and nothing else, or by what is so.
func TestMonitorFunctionsAnswerAlways(t *testing.T) {
	source, all := rand.New(rand.NewSource(91)), runnable(t)
	number := func() int64 { return int64(source.Uint64()) >> source.Intn(64) }
	codes := map[int64]int{}
	for range 8000 {
		s := cloneSystem(anySystem(t, source, all))
		if source.Intn(3) > 0 {
			spoil(&s, source)
		}
		code := plainSystemFault(s)
		codes[code]++
		for _, a := range []asking{asksTaint(number()), asksRetag(number(), number(), number()), asksRetag(0, 1, number()), asksGate(number(), number()), asksGate(0, number()), asksCall(number()), asksCall(1 + source.Int63n(4))} {
			if code == impl.OK {
				wantAsked(t, s, a)
			} else {
				wantNoCall(t, fmt.Sprintf("%s of %v", a.name, s), a.ask(s), code)
			}
		}
		if t.Failed() {
			return
		}
	}
	for _, code := range []int64{impl.OK, impl.ErrForm, impl.ErrMany, impl.ErrRange, impl.ErrNone, impl.ErrState} {
		if codes[code] < 20 {
			t.Errorf("too few systems of code %d: %d", code, codes[code])
		}
	}
}

func TestMonitorAnswersHangOnArgumentsAlone(t *testing.T) {
	some := []impl.System{gated(t, 0, impl.Gate{Domain: 1, Entry: 8}), gated(t, 2, impl.Gate{Domain: 2, Entry: 9}), gated(t, 3)}
	answers := func() string {
		all := []string{}
		for _, s := range some {
			for _, a := range fewAskings() {
				all = append(all, told(a.ask(s)))
			}
		}
		return strings.Join(all, " ")
	}
	was := answers()
	for n, other := range monitoredAndNot(t) {
		monitorAnswers(other)
		if n%8 != 0 {
			continue
		}
		if got := answers(); got != was {
			t.Fatalf("behind calls with %v the answers are %s, and were %s", other, got, was)
		}
	}
}
