package tests

// Promise 1, for the machine: every function answers at every argument, ends, and changes none; what it answers is new
// memory; it hangs on the arguments alone.

import (
	"fmt"
	"math"
	"math/rand"
	"reflect"
	"slices"
	"strings"
	"testing"

	"loop.example/g00530/impl"
)

// A fault of the system is told whatever else is asked, be that right or wrong, and nothing else is told then.
func TestMachineFaultsComeFirst(t *testing.T) {
	refuse := func(f faultySystem) {
		wantNoStep(t, "TryStep: "+f.name, impl.TryStep(f.system), f.code)
		for _, domain := range []int64{0, 3, -1, 4, math.MinInt64, math.MaxInt64} {
			if got := impl.ContextOf(f.system, domain); got.Code != f.code || !impl.SameContexts(got.Context, impl.Context{}) {
				t.Errorf("ContextOf: %s with %d: %v; want code %d and all else zero", f.name, domain, got, f.code)
			}
		}
	}
	for _, f := range faultySystems(t) {
		refuse(f)
	}
	many := 0
	eachManyFaulty(t, func(f faultySystem) {
		many++
		if many%5 == 0 {
			refuse(f)
		}
	})
}

// One who is halted, and one whose Pc is nowhere, is not answered where the system has a fault.
func TestMachineFaultsOfOneWhoIsHalted(t *testing.T) {
	for _, f := range faultySystems(t) {
		s := cloneSystem(f.system)
		for domain := range s.Contexts {
			s.Contexts[domain].Halted = true
		}
		wantNoStep(t, "halted: "+f.name, impl.TryStep(s), f.code)
	}
}

// askedOfMachine are what machineAnswers asks with as domain, tag, bit and pc.
var askedOfMachine = []int64{-1, 0, 1, 2, 3, 4, 6, 7, 65535, 65536, math.MinInt64, math.MaxInt64}

// machineAnswers tells all that the functions answer for a system.
func machineAnswers(s impl.System) string {
	answers := []string{fmt.Sprint(impl.SystemFault(s), impl.TryStep(s))}
	for _, number := range askedOfMachine {
		answers = append(answers, fmt.Sprint(impl.ContextOf(s, number), impl.NewContext(number)))
		for _, tag := range []int64{-1, 0, 1, 2, 3} {
			for _, bit := range []int64{0, 1, 2, 3, 4} {
				answers = append(answers, fmt.Sprint(impl.AllowedBy(s.Cache, number, tag, bit)))
			}
		}
	}
	for _, a := range s.Contexts {
		for _, b := range s.Contexts {
			answers = append(answers, fmt.Sprint(impl.SameContexts(a, b)))
		}
	}
	return strings.Join(answers, "; ")
}

// manySystems are right ones, and wrong ones of each kind.
func manySystems(t *testing.T) []impl.System {
	t.Helper()
	list := append(goodSystems(t), stepping(t)...)
	for n, f := range faultySystems(t) {
		if n%7 == 0 {
			list = append(list, f.system)
		}
	}
	return append(list, impl.System{})
}

// stepping has a system for each kind of instruction, and for each way in which a step can end.
func stepping(t *testing.T) []impl.System {
	t.Helper()
	list := []impl.System{}
	for _, name := range kindNames() {
		for _, lines := range []string{allOfZero, "6: 017", "0:"} {
			for _, second := range []string{"9.1", "9.2", "9.3", "9.0"} {
				s := system(t, lines, name+" 5 0 1.1; "+second)
				list = append(list, s, turned(s, func(s *impl.System) { s.Out = nil }), turned(s, func(s *impl.System) { s.Out = make([]int64, 39) }))
			}
		}
	}
	halted := system(t, allOfZero, "0.1")
	halted.Contexts[0].Halted = true
	return append(list, halted)
}

// Each list is told as nil, and as an empty one behind which memory lies.
func TestMachineNilIsEmpty(t *testing.T) {
	for _, base := range []impl.System{system(t, "0:", "set 1 0 5.1"), system(t, allOfZero, "out 1 0 5.1"), systemOf(tables(t, "1:1111 - 1:1311 - | 2 | 0"))} {
		for name, turn := range emptyLists() {
			none := turned(base, func(s *impl.System) { turn(s, false) })
			empty := turned(base, func(s *impl.System) { turn(s, true) })
			if a, b := machineAnswers(none), machineAnswers(empty); a != b {
				t.Errorf("%s: without a list %s, with an empty one %s", name, a, b)
			}
		}
	}
	wantSameContexts(t, "nil and empty", impl.Context{Pc: 1}, impl.Context{Regs: make([]int64, 0, 8), Pc: 1}, true)
}

// emptyLists turn one of a system's lists each into none, as nil or as an empty one.
func emptyLists() map[string]func(s *impl.System, empty bool) {
	return map[string]func(s *impl.System, empty bool){
		"words":    func(s *impl.System, empty bool) { s.Memory.Words = listOr(s.Memory.Words, empty) },
		"out":      func(s *impl.System, empty bool) { s.Out = listOr(s.Out, empty) },
		"gates":    func(s *impl.System, empty bool) { s.Gates = listOr(s.Gates, empty) },
		"lines":    func(s *impl.System, empty bool) { s.Cache.Lines = listOr(s.Cache.Lines, empty) },
		"contexts": func(s *impl.System, empty bool) { s.Contexts = listOr(s.Contexts, empty) },
		"regs":     func(s *impl.System, empty bool) { s.Contexts[0].Regs = listOr(s.Contexts[0].Regs, empty) },
		"tags":     func(s *impl.System, empty bool) { s.Tables.Tags = listOr(s.Tables.Tags, empty) },
		"domains":  func(s *impl.System, empty bool) { s.Tables.Domains = listOr(s.Tables.Domains, empty) },
		"slots":    func(s *impl.System, empty bool) { s.Tables.Registry.Slots = listOr(s.Tables.Registry.Slots, empty) },
		"levels": func(s *impl.System, empty bool) {
			for place, slot := range s.Tables.Registry.Slots {
				if slot.Count == 0 {
					s.Tables.Registry.Slots[place].Label.Levels = listOr(slot.Label.Levels, empty)
				}
			}
		},
	}
}

// listOr is an empty list in the memory of what there was, or nil.
func listOr[T any](list []T, empty bool) []T {
	if empty {
		return append(slices.Clone(list), make([]T, 2)...)[:0]
	}
	return nil
}

// roomyList is in memory that goes on behind it, where a careless append or store would be seen.
func roomyList[T any](list []T, behind ...T) []T {
	return append(slices.Clone(list), behind...)[:len(list)]
}

func roomySystem(s impl.System) impl.System {
	s = cloneSystem(s)
	for place, slot := range s.Tables.Registry.Slots {
		s.Tables.Registry.Slots[place].Label.Levels = roomyList(slot.Label.Levels, 77, 78)
	}
	s.Tables.Registry.Slots = roomyList(s.Tables.Registry.Slots, impl.Slot{Count: 55}, impl.Slot{Count: 56})
	s.Tables.Tags, s.Tables.Domains = roomyList(s.Tables.Tags, 77, 0), roomyList(s.Tables.Domains, 0, 77)
	s.Memory.Words = roomyList(s.Memory.Words, impl.Word{Value: 4613, Tag: 1}, impl.Word{Value: 77777, Tag: 78})
	for domain, c := range s.Contexts {
		s.Contexts[domain].Regs = roomyList(c.Regs, 77, 78)
	}
	s.Contexts = roomyList(s.Contexts, contextOf(5, 77))
	s.Cache.Lines = roomyList(s.Cache.Lines, impl.Line{Domain: 0, Tag: 1, Perm: 7}, impl.Line{Domain: 77, Tag: 78, Perm: 79})
	s.Out, s.Gates = roomyList(s.Out, 77, 77777), roomyList(s.Gates, impl.Gate{Domain: 1}, impl.Gate{Domain: 77, Entry: 78})
	return s
}

// eachList visits all lists in a value, those in lists too, each as far as its memory goes.
func eachList(v reflect.Value, visit func(list reflect.Value)) {
	switch v.Kind() {
	case reflect.Struct:
		for n := range v.NumField() {
			eachList(v.Field(n), visit)
		}
	case reflect.Slice:
		whole := v.Slice(0, v.Cap())
		visit(whole)
		for n := range whole.Len() {
			eachList(whole.Index(n), visit)
		}
	}
}

// wholeTold tells all memory of a value, what lies behind the ends of its lists too.
func wholeTold(value any) string {
	whole := []string{told(value)}
	eachList(reflect.ValueOf(value), func(list reflect.Value) { whole = append(whole, fmt.Sprint(list)) })
	return strings.Join(whole, " ")
}

func TestMachineArgumentsStay(t *testing.T) {
	for _, given := range manySystems(t) {
		s := roomySystem(given)
		was := wholeTold(s)
		machineAnswers(s)
		if now := wholeTold(s); now != was {
			t.Fatalf("%s became %s", was, now)
		}
	}
}

// What lies behind the end of a list is no part of it: the answers are those of a list that ends there.
func TestMachineAnswersHangOnNoCapacity(t *testing.T) {
	for _, given := range manySystems(t) {
		if a, b := machineAnswers(roomySystem(given)), machineAnswers(given); a != b {
			t.Errorf("%v: with memory behind it %s, else %s", given, a, b)
		}
	}
}

// memoryOf are the bounds of the memory of each list in a value.
func memoryOf(value any) [][2]uintptr {
	bounds := [][2]uintptr{}
	eachList(reflect.ValueOf(value), func(list reflect.Value) {
		if list.Len() > 0 {
			from := list.Pointer()
			bounds = append(bounds, [2]uintptr{from, from + uintptr(list.Len())*list.Type().Elem().Size()})
		}
	})
	return bounds
}

// wantApart asks that no list of an answer shares memory with another one, or with one of an argument.
func wantApart(t *testing.T, what string, answer any, arguments ...any) {
	t.Helper()
	own, others := memoryOf(answer), [][2]uintptr{}
	for _, argument := range arguments {
		others = append(others, memoryOf(argument)...)
	}
	for n, a := range own {
		for _, b := range append(slices.Clone(own[:n]), others...) {
			if a[0] < b[1] && b[0] < a[1] {
				t.Errorf("%s: a list of the answer shares memory", what)
				return
			}
		}
	}
}

func TestMachineAnswersAreNewMemory(t *testing.T) {
	for _, given := range append(goodSystems(t), stepping(t)...) {
		s := roomySystem(given)
		first, second := impl.TryStep(s), impl.TryStep(s)
		if first.Code != impl.OK {
			t.Fatalf("%v: code %d", s, first.Code)
		}
		what := fmt.Sprintf("a step that is %s", kindTold(first.Kind))
		wantApart(t, what, first, s, second)
		for domain := range int64(len(s.Contexts)) {
			wantApart(t, "ContextOf", impl.ContextOf(s, domain), s, impl.ContextOf(s, domain), impl.NewContext(0))
		}
	}
	wantApart(t, "NewContext", impl.NewContext(5), impl.NewContext(5))
}

// Lists of a system that share memory are apart in what is answered: what turns for one does not turn the others.
func TestMachineListsThatWereShared(t *testing.T) {
	for _, words := range []string{"set 1 0 5.1; 9.1", "out 1 0 0.1; 9.1", "store 5 0 1.1; 9.1", "halt 0 0 0.1; 9.1", "load 5 0 1.1; 9.1", "bad11 0 0 0.1; 9.1"} {
		s := system(t, allOfZero, words)
		shared := []int64{0, 1, 3, 0, 0, 0, 0, 0}
		for domain := range s.Contexts {
			s.Contexts[domain].Regs = shared
		}
		s.Out, s.Tables.Tags = shared[1:3], shared[:3]
		was := wholeTold(s)
		got := impl.TryStep(s)
		wantStep(t, words, got, plainStep(s))
		wantApart(t, words, got, s)
		if wholeTold(s) != was {
			t.Errorf("%s: %s became %s", words, was, wholeTold(s))
		}
	}
}

// scrub turns all memory of a system, what lies behind the ends of its lists too.
func scrub(s impl.System) {
	overwriteTables(s.Tables)
	overwriteMemory(s.Memory)
	overwriteCache(s.Cache)
	overwrite(s.Out)
	for domain := range s.Contexts {
		overwrite(s.Contexts[domain].Regs)
		s.Contexts[domain].Pc = 99
	}
	for gate := range s.Gates {
		s.Gates[gate] = impl.Gate{Domain: 97, Entry: 98}
	}
}

// An answer stays as it is when what was handed in is turned afterwards, and the other way round.
func TestMachineAnswersStay(t *testing.T) {
	for _, given := range append(goodSystems(t), stepping(t)...) {
		s := roomySystem(given)
		was := wholeTold(s)
		scrub(impl.TryStep(s).System)
		for domain := range int64(4) {
			overwrite(impl.ContextOf(s, domain).Context.Regs)
		}
		if wholeTold(s) != was {
			t.Fatalf("by what was done with its answers %s became %s", was, wholeTold(s))
		}
		step, context := impl.TryStep(s), impl.ContextOf(s, 0)
		stepWas, contextWas := told(step), told(context)
		scrub(s)
		if told(step) != stepWas || told(context) != contextWas {
			t.Fatalf("by what was done with the system its answers %s and %s became %v and %v", stepWas, contextWas, step, context)
		}
	}
}

// What is done with a system that was answered does not turn another one that was answered from it.
func TestMachineAnswersBranch(t *testing.T) {
	s := impl.TryStep(system(t, allOfZero, "set 1 0 5.1; out 1 0 0.1; out 2 0 0.1")).System
	first := impl.TryStep(s).System
	other := cloneSystem(s)
	other.Contexts[0].Pc = 2
	second := impl.TryStep(other).System
	third := impl.TryStep(first).System
	for _, row := range []struct {
		name string
		got  impl.System
		out  []int64
	}{{"at first", s, []int64{7, 65535}}, {"the first", first, []int64{7, 65535, 5}}, {"the second", second, []int64{7, 65535, 2}}, {"the third", third, []int64{7, 65535, 5, 2}}} {
		if !slices.Equal(row.got.Out, row.out) {
			t.Errorf("%s: %v went out; want %v", row.name, row.got.Out, row.out)
		}
	}
}

// spoil turns one thing of a system into whatever comes.
func spoil(s *impl.System, source *rand.Rand) {
	number := func() int64 {
		return int64(source.Uint64()) >> source.Intn(64)
	}
	some := func(many int) int { return source.Intn(max(1, many)) }
	for _, turn := range source.Perm(14)[:1+source.Intn(2)] {
		switch turn {
		case 0:
			s.Active = number()
		case 1:
			s.Device = number()
		case 2:
			s.Cache.Size = number()
		case 3:
			s.Cache.Lines = append(s.Cache.Lines, impl.Line{Domain: number(), Tag: number(), Perm: number()})
		case 4:
			s.Out = append(s.Out, number())
		case 5:
			s.Gates = append(s.Gates, impl.Gate{Domain: number(), Entry: number()})
		case 6:
			s.Memory.Words = append(s.Memory.Words, impl.Word{Value: number(), Tag: number()})
		case 7:
			s.Contexts[some(len(s.Contexts))].Pc = number()
		case 8:
			s.Contexts[some(len(s.Contexts))].Regs[source.Intn(8)] = number()
		case 9:
			s.Contexts[some(len(s.Contexts))].Regs = make([]int64, source.Intn(12))
		case 10:
			s.Contexts = s.Contexts[:some(len(s.Contexts)+1)]
			s.Contexts = append(s.Contexts, contextOf(0, 0))
		case 11:
			s.Tables.Tags[some(len(s.Tables.Tags))] = number()
		case 12:
			s.Tables.Domains = append(s.Tables.Domains, number())
		case 13:
			s.Tables.Registry.Slots[0].Count = number()
		}
		if slices.ContainsFunc(s.Contexts, func(c impl.Context) bool { return len(c.Regs) < 8 }) {
			return
		}
	}
}

// Whatever comes in, each call is answered: by a code and nothing else, or by what is so.
func TestMachineFunctionsAnswerAlways(t *testing.T) {
	source, all := rand.New(rand.NewSource(71)), runnable(t)
	codes := map[int64]int{}
	for range 20000 {
		s := cloneSystem(anySystem(t, source, all))
		if source.Intn(4) > 0 {
			spoil(&s, source)
		}
		code, step := impl.SystemFault(s), impl.TryStep(s)
		codes[code]++
		if want := plainSystemFault(s); code != want {
			t.Fatalf("%v: code %d; want %d", s, code, want)
		}
		if code != impl.OK {
			wantNoStep(t, "a step", step, code)
			wantNoContext(t, "a context", impl.ContextOf(s, 0), code)
		} else {
			wantStep(t, "a step", step, plainStep(s))
			wantContext(t, "a context", impl.ContextOf(s, s.Active), s.Contexts[s.Active])
		}
		if t.Failed() {
			return
		}
	}
	for _, code := range []int64{impl.OK, impl.ErrForm, impl.ErrMany, impl.ErrRange, impl.ErrNone, impl.ErrState} {
		if codes[code] < 20 {
			t.Errorf("too few systems of code %d: %d", code, codes[code])
		}
	}
}

func TestMachineAnswersHangOnArgumentsAlone(t *testing.T) {
	some := stepping(t)[:40]
	answers := func() string {
		all := []string{}
		for _, s := range some {
			all = append(all, told(impl.TryStep(s)), told(impl.ContextOf(s, 0)), told(impl.AllowedBy(s.Cache, 0, 1, 4)), told(impl.NewContext(3)))
		}
		return strings.Join(all, " ")
	}
	was := answers()
	for n, other := range manySystems(t) {
		machineAnswers(other)
		if n%8 != 0 {
			continue
		}
		if got := answers(); got != was {
			t.Fatalf("behind calls with %v the answers are %s, and were %s", other, got, was)
		}
	}
}
