package tests

// Promise 1, for a step of the whole: every function answers at every argument, ends, and changes none; what it answers is new
// memory; it hangs on the arguments alone.

import (
	"fmt"
	"math"
	"math/rand"
	"slices"
	"strings"
	"testing"

	"loop.example/g00530/impl"
)

// question is a call of a function of this layer with a system, or with what one is made of, and what it answers.
type question struct {
	name string
	ask  func(s impl.System) any
}

func steps(pick int64) question {
	return question{fmt.Sprintf("StepSystem(%d)", pick), func(s impl.System) any { return impl.StepSystem(s, pick) }}
}

func fills(tag, pick int64) question {
	return question{fmt.Sprintf("FillFor(%d, %d)", tag, pick), func(s impl.System) any { return impl.FillFor(s, tag, pick) }}
}

// makes makes a system of what a system has.
func makes(size int64) question {
	return question{fmt.Sprintf("NewSystem(.., %d, ..)", size), func(s impl.System) any {
		return impl.NewSystem(s.Tables, s.Memory.Words, s.Device, size, s.Gates)
	}}
}

// compares holds a system against itself and against one that has nothing.
func compares() question {
	return question{"SameArchs", func(s impl.System) any {
		return []bool{impl.SameArchs(s, s), impl.SameArchs(s, impl.System{}), impl.SameArchs(impl.System{}, s)}
	}}
}

// questions have each function, with what is right and with what is wrong.
func questions() []question {
	list := []question{compares(), makes(0), makes(1), makes(6), makes(7), makes(-1), makes(math.MinInt64), makes(math.MaxInt64)}
	for _, pick := range []int64{0, 1, 6, 7, 8, math.MaxInt64, -1, math.MinInt64} {
		list = append(list, steps(pick))
		for _, tag := range []int64{0, 1, 3, 6, 7, -1, math.MinInt64, math.MaxInt64} {
			list = append(list, fills(tag, pick))
		}
	}
	return list
}

func stepAnswers(s impl.System) string {
	answers := []string{}
	for _, q := range questions() {
		answers = append(answers, told(q.ask(s)))
	}
	return strings.Join(answers, "; ")
}

// wholesAndNot are right ones, and wrong ones of each kind.
func wholesAndNot(t *testing.T) []impl.System {
	t.Helper()
	list := wholes(t)
	for n, f := range faultySystems(t) {
		if n%31 == 0 {
			list = append(list, f.system)
		}
	}
	return append(list, impl.System{})
}

// A fault of the system is told whatever pick and tag are, right or wrong, and nothing else is told then.
func TestStepFaultsComeFirst(t *testing.T) {
	refuse := func(f faultySystem, pick int64) {
		wantNoWhole(t, fmt.Sprintf("StepSystem(%d): %s", pick, f.name), impl.StepSystem(f.system, pick), f.code)
		for _, tag := range []int64{0, 1, 3, 4, -1} {
			wantNoCall(t, fmt.Sprintf("FillFor(%d, %d): %s", tag, pick, f.name), impl.FillFor(f.system, tag, pick), f.code)
		}
	}
	for _, f := range faultySystems(t) {
		refuse(f, 0)
		refuse(f, -1)
	}
	many := int64(0)
	eachManyFaulty(t, func(f faultySystem) {
		many++
		if many%5 == 0 {
			refuse(f, many%3-1)
		}
	})
}

// One who is halted is not answered where the system has a fault, or the pick is below 0.
func TestStepFaultsOfOneWhoIsHalted(t *testing.T) {
	halted := func(s impl.System) impl.System {
		now := cloneSystem(s)
		for domain := range now.Contexts {
			now.Contexts[domain].Halted = true
		}
		return now
	}
	for _, f := range faultySystems(t) {
		wantNoWhole(t, "halted: "+f.name, impl.StepSystem(halted(f.system), 0), f.code)
	}
	for _, s := range goodSystems(t) {
		for _, pick := range noPicks() {
			wantNoWhole(t, fmt.Sprint("halted, with a pick of ", pick), impl.StepSystem(halted(s), pick), impl.ErrRange)
		}
	}
}

// Each list is told as nil, and as an empty one behind which memory lies.
func TestStepNilIsEmpty(t *testing.T) {
	for _, base := range []impl.System{system(t, "0:", "load 1 0 1.1; 9.3"), gated(t, 3), sevenTags(t, "out 5 0 0.1"), systemOf(tables(t, "1:1111 - 1:1311 - | 2 | 0"), impl.Word{Tag: 1})} {
		for name, turn := range emptyLists() {
			none := turned(base, func(s *impl.System) { turn(s, false) })
			empty := turned(base, func(s *impl.System) { turn(s, true) })
			if a, b := stepAnswers(none), stepAnswers(empty); a != b {
				t.Errorf("%s: without a list %s, with an empty one %s", name, a, b)
			}
			wantSameArchs(t, name, none, empty, true)
		}
	}
}

func TestStepArgumentsStay(t *testing.T) {
	for _, given := range wholesAndNot(t) {
		s := roomySystem(given)
		was := wholeTold(s)
		for _, q := range questions() {
			q.ask(s)
		}
		if now := wholeTold(s); now != was {
			t.Fatalf("%s became %s", was, now)
		}
	}
}

// What lies behind the end of a list is no part of it: the answers are those of a list that ends there.
func TestStepAnswersHangOnNoCapacity(t *testing.T) {
	for _, given := range wholesAndNot(t) {
		if a, b := stepAnswers(roomySystem(given)), stepAnswers(given); a != b {
			t.Errorf("%v: with memory behind it %s, else %s", given, a, b)
		}
		wantSameArchs(t, "with memory behind it", roomySystem(given), given, true)
	}
}

// An answer shares no memory with the system, with another answer, or with itself, whatever came of the step.
func TestStepAnswersAreNewMemory(t *testing.T) {
	kinds := map[int64]int{}
	for _, given := range wholes(t) {
		s := roomySystem(given)
		for _, q := range []question{steps(0), steps(1), fills(0, 0), fills(1, 3), makes(0), makes(6)} {
			wantApart(t, q.name, q.ask(s), s, q.ask(s))
		}
		kinds[impl.StepSystem(s, 0).Kind]++
	}
	for _, kind := range []int64{impl.OutDone, impl.OutDenied, impl.OutCall, impl.OutIdle} {
		if kinds[kind] == 0 {
			t.Errorf("no step that is %s: %v", kindTold(kind), kinds)
		}
	}
}

// Lists of a system that share memory are apart in what is answered: what turns for one does not turn the others.
func TestStepListsThatWereShared(t *testing.T) {
	for _, words := range []string{"set 1 0 5.1; 9.1", "out 1 0 0.1; 9.1", "store 5 0 1.1; 9.1", "halt 0 0 0.1; 9.1", "load 5 0 1.1; 9.3", "bad11 0 0 0.1; 9.1", "call 0 0 1.1; 9.1", "call 0 0 2.1; 9.1", "call 0 0 3.1; 9.1", "call 0 0 5.1; 9.1"} {
		for _, lines := range []string{"0:", "1: 115", allOfZero} {
			s := system(t, lines, words)
			shared := []int64{0, 1, 3, 0, 0, 0, 0, 0}
			for domain := range s.Contexts {
				s.Contexts[domain].Regs = shared
			}
			s.Out, s.Tables.Tags = shared[1:3], shared[:3]
			was := wholeTold(s)
			wantApart(t, words, wantWholeOf(t, s, 0), s)
			wantApart(t, words+", filled for", wantAsked(t, s, asksFill(3, 0)), s)
			made := impl.NewSystem(s.Tables, s.Memory.Words, 1, 2, s.Gates)
			wantSystem(t, words+", made", made, anew(s.Tables, s.Memory.Words, 1, 2, s.Gates))
			wantApart(t, words+", made", made, s)
			if wholeTold(s) != was {
				t.Fatalf("%s: %s became %s", words, was, wholeTold(s))
			}
		}
	}
}

// An answer stays as it is when what was handed in is turned afterwards, and the other way round.
func TestStepAnswersStay(t *testing.T) {
	systems := map[string]func(s impl.System) impl.System{
		"StepSystem": func(s impl.System) impl.System { return impl.StepSystem(s, 0).System },
		"FillFor":    func(s impl.System) impl.System { return impl.FillFor(s, 1, 0).System },
		"NewSystem": func(s impl.System) impl.System {
			return impl.NewSystem(s.Tables, s.Memory.Words, s.Device, s.Cache.Size, s.Gates).System
		},
	}
	for _, given := range wholes(t) {
		for name, ask := range systems {
			s := roomySystem(given)
			was := wholeTold(s)
			scrub(ask(s))
			if wholeTold(s) != was {
				t.Fatalf("by what was done with the answer of %s %s became %s", name, was, wholeTold(s))
			}
			answer := ask(s)
			answerWas := wholeTold(answer)
			scrub(s)
			if wholeTold(answer) != answerWas {
				t.Fatalf("by what was done with the system the answer of %s, %s, became %v", name, answerWas, answer)
			}
		}
	}
}

// What is done with a system that was answered does not turn another one that was answered from it.
func TestStepAnswersBranch(t *testing.T) {
	x := tables(t, machineTables)
	s := impl.NewSystem(x, marked(t, "set 1 0 5.1; out 1 0 0.1; store 1 0 3.1; 9.1").Words, 1, 3, nil).System
	first := impl.StepSystem(s, 0).System
	firstWas := told(first)
	second := impl.StepSystem(first, 0).System
	other := impl.FillFor(first, 3, 0).System
	another := impl.FillFor(first, 2, 0).System
	third := impl.StepSystem(second, 0).System
	if told(first) != firstWas {
		t.Errorf("%s became %v", firstWas, first)
	}
	for _, row := range []struct {
		name  string
		got   impl.System
		lines string
		out   []int64
		last  int64
	}{
		{"at first", s, "3:", nil, 9},
		{"the first", first, "3: 017", nil, 9},
		{"the second", second, "3: 017", []int64{5}, 9},
		{"filled for", other, "3: 017 035", nil, 9},
		{"filled for another", another, "3: 017 020", nil, 9},
		{"the third", third, "3: 017", []int64{5}, 5},
	} {
		if cacheTold(row.got.Cache) != cacheTold(cache(t, row.lines)) || !slices.Equal(row.got.Out, row.out) || row.got.Memory.Words[3].Value != row.last {
			t.Errorf("%s: %v", row.name, row.got)
		}
	}
}

// Whatever comes in, each call is answered: by a code and nothing else, or by what is so.
func TestStepFunctionsAnswerAlways(t *testing.T) {
	source, all := rand.New(rand.NewSource(101)), runnable(t)
	number := func() int64 { return int64(source.Uint64()) >> source.Intn(64) }
	codes := map[int64]int{}
	for range 8000 {
		s := cloneSystem(anySystem(t, source, all))
		likelyCalls(source, &s)
		if source.Intn(3) > 0 {
			spoil(&s, source)
		}
		code, pick, tag := plainSystemFault(s), number(), number()
		codes[code]++
		switch {
		case code == impl.OK && pick < 0:
			wantNoWhole(t, "a step", impl.StepSystem(s, pick), impl.ErrRange)
			wantNoCall(t, "a fill", impl.FillFor(s, tag, pick), impl.ErrRange)
		case code == impl.OK:
			wantWholeOf(t, s, pick)
			if got, want := impl.FillFor(s, tag, pick), asksFill(tag, pick).told(s); !sameCall(got, want) {
				t.Errorf("a fill of %v: %v; want %v", s, got, want)
			}
		default:
			wantNoWhole(t, "a step", impl.StepSystem(s, pick), code)
			wantNoCall(t, "a fill", impl.FillFor(s, tag, pick), code)
		}
		wantMade(t, s, []int64{s.Cache.Size, number()}[source.Intn(2)])
		wantSameArchs(t, "itself", s, cloneSystem(s), true)
		if t.Failed() {
			return
		}
	}
	for _, code := range []int64{impl.OK, impl.ErrForm, impl.ErrMany, impl.ErrRange, impl.ErrNone, impl.ErrState} {
		if codes[code] < 20 {
			t.Errorf("too few systems of code %d: %d", code, codes[code])
		}
	}
}

// wantMade makes a system of what another one has, be that right or wrong.
func wantMade(t *testing.T, s impl.System, size int64) {
	t.Helper()
	got := impl.NewSystem(s.Tables, s.Memory.Words, s.Device, size, s.Gates)
	want := anew(s.Tables, s.Memory.Words, s.Device, size, s.Gates)
	code := impl.TablesFault(s.Tables)
	if code == impl.OK && (size < 0 || size > 6) {
		code = impl.ErrRange
	}
	if code == impl.OK {
		code = plainSystemFault(want)
	}
	if code == impl.OK {
		wantSystem(t, "made", got, want)
	} else {
		wantNoSystem(t, "made", got, code)
	}
}

func TestStepAnswersHangOnArgumentsAlone(t *testing.T) {
	some := []impl.System{system(t, "1:", "load 1 0 1.1; 9.3"), gated(t, 2, impl.Gate{Domain: 2, Entry: 9}), sevenTags(t, "call 0 0 1.1")}
	answers := func() string {
		all := []string{}
		for _, s := range some {
			all = append(all, stepAnswers(s))
		}
		return strings.Join(all, " ")
	}
	was := answers()
	for n, other := range wholesAndNot(t) {
		stepAnswers(other)
		if n%8 != 0 {
			continue
		}
		if got := answers(); got != was {
			t.Fatalf("behind calls with %v the answers are %s, and were %s", other, got, was)
		}
	}
}
