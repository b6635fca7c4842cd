package tests

import (
	"fmt"
	"slices"
	"strconv"
	"strings"
	"testing"

	"loop.example/g00530/impl"
)

// machineTables have the tags 1 "1111", 2 "1311" and 3 "0000", and the domains 0 "1111", 1 "1311", 2 "1*11" and 3 "****".
// What the domains may with the tags 0 to 3: 0 7 0 5, 0 5 7 5, 0 7 7 5 and 0 7 7 7.
const machineTables = "2:1111 2:1311 1:1*11 1:0000 1:**** | 0 1 3 | 0 1 2 4"

// allOfZero knows all that domain 0 may.
const allOfZero = "6: 000 017 020 035"

// marked reads words with semicolons between: an instruction or a value, then a point and the tag: "set 1 0 5.1; 77.2".
func marked(t *testing.T, text string) impl.Memory {
	t.Helper()
	words := []impl.Word{}
	for told := range strings.SplitSeq(text, ";") {
		value, tag, found := strings.Cut(strings.TrimSpace(told), ".")
		if !found {
			t.Fatalf("the test's own words %q have %q, without a tag", text, told)
		}
		words = append(words, impl.Word{Value: plainWord(t, value), Tag: numbers(t, tag)[0]})
	}
	return impl.Memory{Words: words}
}

// plainWord is a number, or counts an instruction together as the document does.
func plainWord(t *testing.T, text string) int64 {
	t.Helper()
	parts := strings.Fields(text)
	if len(parts) == 1 {
		return numbers(t, text)[0]
	}
	op := slices.Index(kindNames(), parts[0])
	if op < 0 || len(parts) != 4 {
		t.Fatalf("the test's own instruction %q is none", text)
	}
	rest := numbers(t, strings.Join(parts[1:], " "))
	return int64(op)*4096 + rest[0]*512 + rest[1]*64 + rest[2]
}

// system has machineTables and a context for each domain: Pc is 0, and the registers are all others, of all domains.
func system(t *testing.T, lines string, words string) impl.System {
	t.Helper()
	s := impl.System{Tables: tables(t, machineTables), Memory: marked(t, words), Cache: cache(t, lines), Device: 1, Out: []int64{7, 65535}, Gates: []impl.Gate{{Domain: 1, Entry: 8}}}
	for domain := range s.Tables.Domains {
		s.Contexts = append(s.Contexts, contextOf(int64(domain), 0))
	}
	return s
}

// contextOf has in register n of a domain 100 for the domain, and n: of domain 0 register 0 alone is 0.
func contextOf(domain, pc int64) impl.Context {
	c := impl.Context{Pc: pc}
	for n := range int64(8) {
		c.Regs = append(c.Regs, 100*domain+n)
	}
	return c
}

// systemOf has tables and words, contexts of one's own, and a cache of nothing.
func systemOf(x impl.Tables, words ...impl.Word) impl.System {
	s := impl.System{Tables: x, Memory: impl.Memory{Words: words}, Device: 1}
	for domain := range x.Domains {
		s.Contexts = append(s.Contexts, contextOf(int64(domain), 0))
	}
	return s
}

// who is the context of the one who is active.
func who(s *impl.System) *impl.Context {
	return &s.Contexts[s.Active]
}

func cloneTables(x impl.Tables) impl.Tables {
	slots := slices.Clone(x.Registry.Slots)
	for place := range slots {
		slots[place].Label.Levels = slices.Clone(slots[place].Label.Levels)
	}
	return impl.Tables{Registry: impl.Registry{Slots: slots}, Tags: slices.Clone(x.Tags), Domains: slices.Clone(x.Domains)}
}

func cloneSystem(s impl.System) impl.System {
	s.Tables = cloneTables(s.Tables)
	s.Memory.Words = slices.Clone(s.Memory.Words)
	s.Contexts = slices.Clone(s.Contexts)
	for domain := range s.Contexts {
		s.Contexts[domain].Regs = slices.Clone(s.Contexts[domain].Regs)
	}
	s.Cache.Lines = slices.Clone(s.Cache.Lines)
	s.Out, s.Gates = slices.Clone(s.Out), slices.Clone(s.Gates)
	return s
}

// turned is a clone with something turned in it.
func turned(s impl.System, turn func(s *impl.System)) impl.System {
	now := cloneSystem(s)
	turn(&now)
	return now
}

// goodSystems are what a system can be: as little and as much of everything as may be.
func goodSystems(t *testing.T) []impl.System {
	t.Helper()
	small := systemOf(tables(t, "2:1111 | 0 | 0"))
	mid := system(t, allOfZero, "set 1 0 5.1; store 1 0 3.1; load 2 0 3.1; 9.2; out 2 0 0.3; halt 0 0 0.0")
	list := []impl.System{small, mid}
	for _, text := range goodTables() {
		x := tables(t, text)
		if len(x.Tags) == 0 || len(x.Domains) == 0 {
			continue
		}
		s := systemOf(x, impl.Word{Value: 65535, Tag: int64(len(x.Tags))}, impl.Word{Value: 4613})
		s.Active, s.Device = int64(len(x.Domains))-1, int64(len(x.Tags))
		list = append(list, s, turned(s, func(s *impl.System) {
			lines := trueLines(x)
			s.Cache = impl.Cache{Size: 6, Lines: lines[max(0, len(lines)-6):]}
		}))
	}
	for _, turn := range []func(s *impl.System){
		func(s *impl.System) { s.Memory.Words = nil },
		func(s *impl.System) { s.Memory.Words = slices.Repeat([]impl.Word{{Value: 4613, Tag: 1}}, 32) },
		func(s *impl.System) { s.Out = nil },
		func(s *impl.System) { s.Out = slices.Repeat([]int64{65535, 0}, 20) },
		func(s *impl.System) { s.Out = slices.Repeat([]int64{65535}, 39) },
		func(s *impl.System) { s.Gates = nil },
		func(s *impl.System) { s.Gates = []impl.Gate{{}, {Domain: 3, Entry: 65535}, {}} },
		func(s *impl.System) { s.Cache = cache(t, "0:") },
		func(s *impl.System) { s.Cache = cache(t, "6: 337") },
		func(s *impl.System) { s.Cache = cache(t, "6: 135 000 217 327 115 035") },
		func(s *impl.System) { s.Cache = cache(t, "1: 017") },
		func(s *impl.System) { s.Active = 3 },
		func(s *impl.System) { s.Device = 3 },
		func(s *impl.System) { s.Contexts[0].Pc, s.Contexts[3].Pc = 65535, 31 },
		func(s *impl.System) { s.Contexts[0].Halted, s.Contexts[2].Halted = true, true },
		func(s *impl.System) { s.Contexts[1].Regs = slices.Repeat([]int64{65535}, 8) },
		func(s *impl.System) { who(s).Pc = 4 },
	} {
		list = append(list, turned(mid, turn))
	}
	return list
}

type faultySystem struct {
	name   string
	system impl.System
	code   int64
}

// notWords leave the bounds of a number that a register, a Pc, an Out or an Entry can be.
func notWords() []int64 {
	return append(noWords(), -2, 1<<17, 1<<31, -1<<31)
}

// faultySystems have one fault each.
func faultySystems(t *testing.T) []faultySystem {
	t.Helper()
	base := system(t, "6: 000 017 115", "set 1 0 5.1; 9.2; 7.3; 8.0")
	list := []faultySystem{}
	add := func(name string, code int64, turn func(s *impl.System)) {
		list = append(list, faultySystem{name, turned(base, turn), code})
	}
	for _, f := range append(faultyTables(t), manyFaults(t)...) {
		add("tables: "+f.name, f.code, func(s *impl.System) { s.Tables = f.tables })
	}
	for _, f := range allFaultyMemories() {
		add("memory: "+f.name, f.code, func(s *impl.System) { s.Memory = f.memory })
	}
	for tag := int64(4); tag <= 7; tag++ {
		for place := range base.Memory.Words {
			add(fmt.Sprintf("of 3 tags %d at %d", tag, place), impl.ErrRange, func(s *impl.System) { s.Memory.Words[place].Tag = tag })
		}
	}
	list = append(list, faultyContexts(t, base)...)
	for _, domain := range append(farNumbers(), -1, 4, 5, 100) {
		add(fmt.Sprint("active is ", domain), impl.ErrNone, func(s *impl.System) { s.Active = domain })
	}
	for _, tag := range append(farNumbers(), -1, 0, 4, 5, 6, 7) {
		add(fmt.Sprint("the device is ", tag), impl.ErrNone, func(s *impl.System) { s.Device = tag })
	}
	for _, f := range allFaultyCaches(t) {
		add("cache: "+f.name, f.code, func(s *impl.System) { s.Cache = f.cache })
	}
	for _, text := range []string{"1: 010", "1: 015", "1: 027", "1: 001", "1: 003", "1: 012", "1: 011", "1: 014", "6: 017 115 217 326", "6: 004 017", "1: 040", "1: 060", "6: 017 050"} {
		add("not true: "+text, impl.ErrState, func(s *impl.System) { s.Cache = cache(t, text) })
	}
	return append(list, faultyPorts(base)...)
}

// faultyContexts are wrong in contexts alone.
func faultyContexts(t *testing.T, base impl.System) []faultySystem {
	t.Helper()
	list := []faultySystem{{"nothing at all", impl.System{}, impl.ErrForm}, {"no domain and no context", systemOf(tables(t, "1:1111 | 0 |")), impl.ErrForm}}
	add := func(name string, code int64, turn func(s *impl.System)) {
		list = append(list, faultySystem{name, turned(base, turn), code})
	}
	add("no contexts", impl.ErrForm, func(s *impl.System) { s.Contexts = nil })
	for _, many := range []int{0, 1, 2, 3, 5, 6, 8, 20} {
		add(fmt.Sprint(many, " contexts of 4 domains"), impl.ErrForm, func(s *impl.System) {
			s.Contexts = slices.Repeat(s.Contexts, 5)[:many]
		})
	}
	list = append(list, faultySystem{"a context without a domain", turned(systemOf(tables(t, "1:1111 | 0 |")), func(s *impl.System) { s.Contexts = append(s.Contexts, contextOf(0, 0)) }), impl.ErrForm})
	for domain := range base.Contexts {
		for _, many := range []int{0, 1, 7, 9, 16, 100} {
			add(fmt.Sprintf("domain %d has %d registers", domain, many), impl.ErrForm, func(s *impl.System) { s.Contexts[domain].Regs = make([]int64, many) })
		}
		add(fmt.Sprintf("domain %d has an eighth register behind the end", domain), impl.ErrForm, func(s *impl.System) {
			s.Contexts[domain].Regs = s.Contexts[domain].Regs[:7]
		})
		for _, number := range notWords() {
			add(fmt.Sprintf("domain %d has a Pc of %d", domain, number), impl.ErrRange, func(s *impl.System) { s.Contexts[domain].Pc = number })
			for register := range 8 {
				add(fmt.Sprintf("domain %d has %d in register %d", domain, number, register), impl.ErrRange, func(s *impl.System) { s.Contexts[domain].Regs[register] = number })
			}
		}
	}
	return list
}

// faultyPorts are wrong in what went out and in gates alone.
func faultyPorts(base impl.System) []faultySystem {
	list := []faultySystem{}
	add := func(name string, code int64, turn func(s *impl.System)) {
		list = append(list, faultySystem{name, turned(base, turn), code})
	}
	for _, many := range []int{41, 42, 100, 1 << 16} {
		add(fmt.Sprint(many, " went out"), impl.ErrMany, func(s *impl.System) { s.Out = make([]int64, many) })
	}
	for _, many := range []int{4, 5, 100} {
		add(fmt.Sprint(many, " gates"), impl.ErrMany, func(s *impl.System) { s.Gates = make([]impl.Gate, many) })
	}
	for _, number := range notWords() {
		for _, place := range []int{0, 1, 20, 39} {
			add(fmt.Sprintf("%d went out at %d", number, place), impl.ErrRange, func(s *impl.System) {
				s.Out = make([]int64, 40)
				s.Out[place] = number
			})
		}
		for place := range 3 {
			add(fmt.Sprintf("gate %d has the entry %d", place, number), impl.ErrRange, func(s *impl.System) {
				s.Gates = make([]impl.Gate, 3)
				s.Gates[place].Entry = number
			})
		}
	}
	for _, domain := range append(farNumbers(), -1, 4, 5, 6, 100) {
		for place := range 3 {
			add(fmt.Sprintf("gate %d has the domain %d", place, domain), impl.ErrRange, func(s *impl.System) {
				s.Gates = make([]impl.Gate, 3)
				s.Gates[place].Domain = domain
			})
		}
	}
	return list
}

// eachManyFaulty goes through several faults at once, in all ways; the code is the one that the chapter names first.
func eachManyFaulty(t *testing.T, visit func(f faultySystem)) {
	t.Helper()
	turns := []struct {
		name string
		code int64
		turn func(s *impl.System)
	}{
		{"tables", impl.ErrState, func(s *impl.System) { s.Tables.Registry.Slots[0].Count++ }},
		{"memory of many", impl.ErrMany, func(s *impl.System) { s.Memory.Words = append(s.Memory.Words, make([]impl.Word, 40)...) }},
		{"word", impl.ErrRange, func(s *impl.System) { s.Memory.Words[1].Tag = 4 }},
		{"contexts", impl.ErrForm, func(s *impl.System) { s.Contexts = append(s.Contexts, impl.Context{}) }},
		{"first context's register", impl.ErrRange, func(s *impl.System) { s.Contexts[0].Regs[7] = 65536 }},
		{"second context's registers", impl.ErrForm, func(s *impl.System) { s.Contexts[1].Regs = append(s.Contexts[1].Regs, -1) }},
		{"last context's Pc", impl.ErrRange, func(s *impl.System) { s.Contexts[3].Pc = -1 }},
		{"active", impl.ErrNone, func(s *impl.System) { s.Active = 4 }},
		{"device", impl.ErrNone, func(s *impl.System) { s.Device = 0 }},
		{"cache", impl.ErrRange, func(s *impl.System) { s.Cache.Size = 7 }},
		{"not true", impl.ErrState, func(s *impl.System) { s.Cache.Lines[0].Perm = 1 }},
		{"many out", impl.ErrMany, func(s *impl.System) { s.Out = append(s.Out, make([]int64, 40)...) }},
		{"many gates", impl.ErrMany, func(s *impl.System) { s.Gates = append(s.Gates, make([]impl.Gate, 3)...) }},
		{"out", impl.ErrRange, func(s *impl.System) { s.Out[0] = -1 }},
		{"gate", impl.ErrRange, func(s *impl.System) { s.Gates[0].Domain = 4 }},
	}
	base := system(t, "6: 000 017 115", "set 1 0 5.1; 9.2; 7.3; 8.0")
	for some := 1; some < 1<<len(turns); some++ {
		x := faultySystem{system: cloneSystem(base)}
		for i := len(turns) - 1; i >= 0; i-- {
			if some>>i&1 == 1 {
				turns[i].turn(&x.system)
				x.name, x.code = turns[i].name+", "+x.name, turns[i].code
			}
		}
		visit(x)
	}
}

// need is what a step asks for; a word that is not there has no tag to be known.
type need struct {
	there    bool
	tag, bit int64
}

func wordNeeded(s impl.System, at, bit int64) need {
	if at < 0 || at >= int64(len(s.Memory.Words)) {
		return need{}
	}
	return need{true, s.Memory.Words[at].Tag, bit}
}

// refusedBy is the kind and the tag of what is not allowed, or 0 and 0.
func (n need) refusedBy(s impl.System) (int64, int64) {
	if !n.there {
		return impl.OutDenied, 0
	}
	perm, known := plain(s.Cache).look(s.Active, n.tag)
	switch {
	case !known:
		return impl.OutMiss, n.tag
	case perm&n.bit == 0:
		return impl.OutDenied, 0
	}
	return 0, 0
}

// needsOf are what the instruction asks for behind itself.
func needsOf(s impl.System, i impl.Inst) []need {
	at := (s.Contexts[s.Active].Regs[i.B] + i.Imm) % 65536
	switch {
	case i.Op == 4:
		return []need{wordNeeded(s, at, 1)}
	case i.Op == 5:
		return []need{wordNeeded(s, at, 2)}
	case i.Op == 9 && len(s.Out) < 40:
		return []need{{true, s.Device, 2}}
	case i.Op == 9 || i.Op > 10:
		return []need{{}}
	}
	return nil
}

// doPlainly turns a system as an instruction that is allowed does, and tells the kind and the call.
func doPlainly(s *impl.System, i impl.Inst) (int64, int64) {
	c := who(s)
	a, b, next := &c.Regs[i.A], c.Regs[i.B], (c.Pc+1)%65536
	place := (b + i.Imm) % 65536
	kind, call := int64(impl.OutDone), int64(0)
	switch kindNames()[i.Op] {
	case "halt":
		c.Halted, next = true, c.Pc
	case "set":
		*a = i.Imm
	case "add":
		*a = (*a + b) % 65536
	case "sub":
		*a = (*a + 65536 - b) % 65536
	case "load":
		*a = s.Memory.Words[place].Value
	case "store":
		s.Memory.Words[place].Value = *a
	case "jump":
		next = i.Imm
	case "zero":
		if *a == 0 {
			next = i.Imm
		}
	case "call":
		kind, call = impl.OutCall, i.Imm
	case "out":
		s.Out = append(s.Out, *a)
	case "copy":
		*a = b
	}
	c.Pc = next
	return kind, call
}

// plainStep tells as plainly as can be what a step of a system without a fault is: all that is asked for, then all that is done.
func plainStep(s impl.System) impl.StepResult {
	now := cloneSystem(s)
	c := who(&now)
	if c.Halted {
		return impl.StepResult{Kind: impl.OutIdle, System: now}
	}
	needs := []need{wordNeeded(s, c.Pc, 4)}
	var i impl.Inst
	if needs[0].there {
		i = inst(s.Memory.Words[c.Pc].Value)
		needs = append(needs, needsOf(s, i)...)
	}
	for _, n := range needs {
		if kind, tag := n.refusedBy(s); kind != 0 {
			return impl.StepResult{Kind: kind, Tag: tag, System: now}
		}
	}
	kind, call := doPlainly(&now, i)
	return impl.StepResult{Kind: kind, Call: call, System: now}
}

// plainSystemFault asks, in the chapter's order, what the chapters ahead of it have answered, and all that is its own.
func plainSystemFault(s impl.System) int64 {
	tags, domains := int64(len(s.Tables.Tags)), int64(len(s.Tables.Domains))
	isWord := func(n int64) bool { return n == n%65536 && n >= 0 }
	codes := []int64{impl.TablesFault(s.Tables), impl.MemoryFault(s.Memory, tags)}
	ask := func(wrong bool, code int64) {
		if wrong {
			codes = append(codes, code)
		}
	}
	ask(int64(len(s.Contexts)) != domains || domains == 0, impl.ErrForm)
	for _, c := range s.Contexts {
		ask(len(c.Regs) != 8, impl.ErrForm)
		ask(slices.ContainsFunc(append(slices.Clone(c.Regs), c.Pc), func(n int64) bool { return !isWord(n) }), impl.ErrRange)
	}
	ask(s.Active < 0 || s.Active >= domains || s.Device < 1 || s.Device > tags, impl.ErrNone)
	codes = append(codes, impl.CacheFault(s.Cache))
	ask(!impl.CacheTrue(s.Cache, s.Tables), impl.ErrState)
	ask(len(s.Out) > 40 || len(s.Gates) > 3, impl.ErrMany)
	for _, n := range s.Out {
		ask(!isWord(n), impl.ErrRange)
	}
	for _, g := range s.Gates {
		ask(!isWord(g.Entry) || g.Domain < 0 || g.Domain >= domains, impl.ErrRange)
	}
	for _, code := range codes {
		if code != impl.OK {
			return code
		}
	}
	return impl.OK
}

// told compares by all that there is, where nil and empty lists are told alike.
func told(answer any) string {
	return fmt.Sprint(answer)
}

// sameStep compares as told does, only faster: it is asked for every word.
func sameStep(a, b impl.StepResult) bool {
	return a.Code == b.Code && a.Kind == b.Kind && a.Tag == b.Tag && a.Call == b.Call && sameSystem(a.System, b.System)
}

func sameSystem(a, b impl.System) bool {
	sameSlot := func(a, b impl.Slot) bool { return a.Count == b.Count && sameLabel(a.Label, b.Label) }
	sameContext := func(a, b impl.Context) bool {
		return slices.Equal(a.Regs, b.Regs) && a.Pc == b.Pc && a.Halted == b.Halted
	}
	return slices.EqualFunc(a.Tables.Registry.Slots, b.Tables.Registry.Slots, sameSlot) &&
		slices.Equal(a.Tables.Tags, b.Tables.Tags) && slices.Equal(a.Tables.Domains, b.Tables.Domains) &&
		slices.Equal(a.Memory.Words, b.Memory.Words) && slices.EqualFunc(a.Contexts, b.Contexts, sameContext) &&
		a.Active == b.Active && a.Cache.Size == b.Cache.Size && slices.Equal(a.Cache.Lines, b.Cache.Lines) &&
		a.Device == b.Device && slices.Equal(a.Out, b.Out) && slices.Equal(a.Gates, b.Gates)
}

func kindTold(kind int64) string {
	names := []string{"no kind", "done", "miss", "denied", "call", "idle"}
	if kind < 0 || kind >= int64(len(names)) {
		return strconv.FormatInt(kind, 10)
	}
	return names[kind]
}

func wantStep(t *testing.T, what string, got, want impl.StepResult) {
	t.Helper()
	if got.Code != want.Code || got.Kind != want.Kind || got.Tag != want.Tag || got.Call != want.Call {
		t.Errorf("%s: code %d, %s, tag %d, call %d; want code %d, %s, tag %d, call %d", what, got.Code, kindTold(got.Kind), got.Tag, got.Call, want.Code, kindTold(want.Kind), want.Tag, want.Call)
	}
	if !sameSystem(got.System, want.System) {
		t.Errorf("%s: the system is %v; want %v", what, got.System, want.System)
	}
}

// wantNoStep and wantNoContext also ask that all but the code is zero.
func wantNoStep(t *testing.T, what string, got impl.StepResult, code int64) {
	t.Helper()
	if told(got) != told(impl.StepResult{Code: code}) {
		t.Errorf("%s: %v; want code %d and all else zero", what, got, code)
	}
}

func wantContext(t *testing.T, what string, got impl.ContextResult, want impl.Context) {
	t.Helper()
	if told(got) != told(impl.ContextResult{Context: want}) {
		t.Errorf("%s: %v; want %v", what, got, want)
	}
}

func wantNoContext(t *testing.T, what string, got impl.ContextResult, code int64) {
	t.Helper()
	if told(got) != told(impl.ContextResult{Code: code}) {
		t.Errorf("%s: %v; want code %d and all else zero", what, got, code)
	}
}
