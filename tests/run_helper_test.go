package tests

import (
	"fmt"
	"math"
	"math/rand"
	"slices"
	"strings"
	"testing"

	"loop.example/g00530/impl"
)

// events reads events with semicolons between: "run 9 1; switch 1; evict 2" has an N of 9 and a Pick of 1, then an N, then a Pick.
func events(t *testing.T, text string) []impl.Event {
	t.Helper()
	list := []impl.Event{}
	for told := range strings.SplitSeq(text, ";") {
		parts := strings.Fields(told)
		if len(parts) == 0 {
			continue
		}
		rest := numbers(t, strings.Join(parts[1:], " "))
		switch {
		case parts[0] == "run" && len(rest) == 2:
			list = append(list, impl.Event{Kind: 1, N: rest[0], Pick: rest[1]})
		case parts[0] == "switch" && len(rest) == 1:
			list = append(list, impl.Event{Kind: 2, N: rest[0]})
		case parts[0] == "evict" && len(rest) == 1:
			list = append(list, impl.Event{Kind: 3, Pick: rest[0]})
		default:
			t.Fatalf("the test's own events %q have %q", text, told)
		}
	}
	return list
}

// accesses reads accesses: the domain, r, w or x for the bit, the place, a point, the tag, and + or - for done and not: "0x0.1+ 0w-1.3-".
func accesses(t *testing.T, text string) []impl.Access {
	t.Helper()
	list := []impl.Access{}
	for _, word := range strings.Fields(text) {
		var a impl.Access
		var bit, done rune
		many, err := fmt.Sscanf(word, "%1d%c%d.%d%c", &a.Domain, &bit, &a.At, &a.Tag, &done)
		a.Bit, a.Done = map[rune]int64{'r': 1, 'w': 2, 'x': 4}[bit], done == '+'
		if many != 5 || err != nil || a.Bit == 0 || !a.Done && done != '-' {
			t.Fatalf("the test's own access %q is none: %v", word, err)
		}
		list = append(list, a)
	}
	return list
}

// plainEventFault tells which events are right, and of the others which are wrong by a number alone.
func plainEventFault(e impl.Event) int64 {
	isPick := e.Pick >= 0 && e.Pick <= 999
	switch {
	case e.Kind == 1 && e.N >= 1 && e.N <= 30 && isPick, e.Kind == 2 && e.Pick == 0, e.Kind == 3 && e.N == 0 && isPick:
		return impl.OK
	case e.Kind == 1, e.Kind == 3 && e.N == 0:
		return impl.ErrRange
	}
	return impl.ErrForm
}

// plainAccesses tells as plainly as can be what the next step of a system without a fault asks for.
func plainAccesses(s impl.System) []impl.Access {
	c, words, list := s.Contexts[s.Active], s.Memory.Words, []impl.Access{}
	there := func(at int64) bool { return at < int64(len(words)) }
	ask := func(at, tag, bit int64) bool {
		done := lineTold(s, tag).Perm&bit != 0
		list = append(list, impl.Access{Domain: s.Active, Bit: bit, At: at, Tag: tag, Done: done})
		return done
	}
	if c.Halted || !there(c.Pc) || !ask(c.Pc, words[c.Pc].Tag, 4) {
		return list
	}
	i := inst(words[c.Pc].Value)
	at := (c.Regs[i.B] + i.Imm) % 65536
	switch name := kindNames()[i.Op]; {
	case name == "load" && there(at):
		ask(at, words[at].Tag, 1)
	case name == "store" && there(at):
		ask(at, words[at].Tag, 2)
	case name == "out" && len(s.Out) < 40:
		ask(-1, s.Device, 2)
	}
	return list
}

// plainRight asks the levels.
func plainRight(s impl.System, a impl.Access) bool {
	if plainSystemFault(s) != impl.OK {
		return false
	}
	h := holdingOf(s.Tables)
	if a.Domain < 0 || a.Domain >= int64(len(h.domains)) || a.Tag < 0 || a.Tag > int64(len(h.tags)) {
		return false
	}
	if !a.Done || a.Tag == 0 {
		return !a.Done
	}
	perm := permTold(h.domains[a.Domain], h.tags[a.Tag-1])
	return perm == 7 || perm == 5 && a.Bit != 2
}

func plainSwitch(s impl.System, domain int64) impl.CallResult {
	if domain < 0 || domain >= int64(len(s.Contexts)) {
		return impl.CallResult{Code: impl.ErrNone}
	}
	return impl.CallResult{Said: s.Active, System: turned(s, acts(domain))}
}

// plainEvent tells as plainly as can be what an event is, right or wrong, for a system without a fault.
func plainEvent(s impl.System, e impl.Event) impl.RunResult {
	if code := plainEventFault(e); code != impl.OK {
		return impl.RunResult{Code: code}
	}
	now := impl.RunResult{System: cloneSystem(s)}
	switch e.Kind {
	case 1:
		for kind := int64(0); now.Steps < e.N && kind != impl.OutIdle; now.Steps++ {
			now.Accesses = append(now.Accesses, plainAccesses(now.System)...)
			step := plainWhole(now.System, e.Pick+now.Steps)
			now.Misses, now.System, kind = now.Misses+step.Misses, step.System, step.Kind
		}
	case 2:
		switched := plainSwitch(s, e.N)
		now.Code, now.System = switched.Code, switched.System
	case 3:
		now.System.Cache = plain(s.Cache).evict(e.Pick).cache()
	}
	return now
}

func plainRun(s impl.System, list []impl.Event) impl.RunResult {
	if len(list) > 20 {
		return impl.RunResult{Code: impl.ErrMany}
	}
	now := impl.RunResult{System: cloneSystem(s)}
	for _, e := range list {
		next := plainEvent(now.System, e)
		if next.Code != impl.OK {
			return impl.RunResult{Code: next.Code}
		}
		now = behind(now, next)
	}
	return now
}

// behind puts one run behind another: the sums, the accesses of both, and the last system.
func behind(first, second impl.RunResult) impl.RunResult {
	return impl.RunResult{
		Steps:    first.Steps + second.Steps,
		Misses:   first.Misses + second.Misses,
		Accesses: slices.Concat(first.Accesses, second.Accesses),
		System:   second.System,
	}
}

func sameRun(a, b impl.RunResult) bool {
	return a.Code == b.Code && a.Steps == b.Steps && a.Misses == b.Misses && slices.Equal(a.Accesses, b.Accesses) && sameSystem(a.System, b.System)
}

// sameButTheCache leaves the Misses out, too, which tell of the cache.
func sameButTheCache(a, b impl.RunResult) bool {
	return a.Code == b.Code && a.Steps == b.Steps && slices.Equal(a.Accesses, b.Accesses) && impl.SameArchs(a.System, b.System)
}

// wantRun also asks that nothing wrong is left behind.
func wantRun(t *testing.T, what string, got, want impl.RunResult) {
	t.Helper()
	if got.Code != want.Code || got.Steps != want.Steps || got.Misses != want.Misses {
		t.Errorf("%s: code %d, %d steps, %d misses; want code %d, %d steps, %d misses", what, got.Code, got.Steps, got.Misses, want.Code, want.Steps, want.Misses)
	}
	if !slices.Equal(got.Accesses, want.Accesses) {
		t.Errorf("%s: the accesses are %v; want %v", what, got.Accesses, want.Accesses)
	}
	if !sameSystem(got.System, want.System) {
		t.Errorf("%s: the system is %v; want %v", what, got.System, want.System)
	}
	if code := impl.SystemFault(got.System); got.Code == impl.OK && code != impl.OK {
		t.Errorf("%s: the fault %d is left behind", what, code)
	}
}

// wantRunOf and wantEventOf ask and hold the answer against what is told plainly.
func wantRunOf(t *testing.T, s impl.System, list []impl.Event) impl.RunResult {
	t.Helper()
	got := impl.RunSystem(s, list)
	if want := plainRun(s, list); !sameRun(got, want) || got.Code == impl.OK && impl.SystemFault(got.System) != impl.OK {
		wantRun(t, fmt.Sprintf("%v of %v", list, s), got, want)
	}
	return got
}

func wantEventOf(t *testing.T, s impl.System, e impl.Event) impl.RunResult {
	t.Helper()
	got := impl.DoEvent(s, e)
	if want := plainEvent(s, e); !sameRun(got, want) || got.Code == impl.OK && impl.SystemFault(got.System) != impl.OK {
		wantRun(t, fmt.Sprintf("%v of %v", e, s), got, want)
	}
	return got
}

// wantNoRun and wantNoAccesses also ask that all but the code is zero.
func wantNoRun(t *testing.T, what string, got impl.RunResult, code int64) {
	t.Helper()
	if !sameRun(got, impl.RunResult{Code: code}) {
		t.Errorf("%s: %v; want code %d and all else zero", what, got, code)
	}
}

func wantNoAccesses(t *testing.T, what string, got impl.AccessResult, code int64) {
	t.Helper()
	if got.Code != code || len(got.Accesses) != 0 {
		t.Errorf("%s: %v; want code %d and no accesses", what, got, code)
	}
}

func wantAccesses(t *testing.T, what string, got impl.AccessResult, want []impl.Access) {
	t.Helper()
	if got.Code != impl.OK || !slices.Equal(got.Accesses, want) {
		t.Errorf("%s: %v; want %v", what, got, want)
	}
}

// wantAccessesOf asks and holds the answer against what is told plainly, and asks that all of it is right.
func wantAccessesOf(t *testing.T, s impl.System) []impl.Access {
	t.Helper()
	got := impl.AccessesOf(s)
	if want := plainAccesses(s); got.Code != impl.OK || !slices.Equal(got.Accesses, want) {
		t.Errorf("%v: %v; want %v", s, got, want)
	}
	for _, a := range got.Accesses {
		if !impl.IsRight(s, a) {
			t.Errorf("%v: %v is not right", s, a)
		}
	}
	return got.Accesses
}

func wantRight(t *testing.T, s impl.System, a impl.Access, want bool) {
	t.Helper()
	if got := impl.IsRight(s, a); got != want {
		t.Errorf("%v of %v: right is %v; want %v", a, s, got, want)
	}
}

// wrongEvents have a fault each, whatever the system is.
func wrongEvents() []impl.Event {
	list := []impl.Event{{}, {N: 1}, {Pick: 1}, {N: 1, Pick: 1}, {Kind: 4}, {Kind: 4, N: 1}, {Kind: 4, N: 1, Pick: 1}, {Kind: -1, N: 1}}
	for _, kind := range append(farNumbers(), -3, 5, 1<<32+3) {
		list = append(list, impl.Event{Kind: kind, N: 1, Pick: 1}, impl.Event{Kind: kind, N: 1}, impl.Event{Kind: kind})
	}
	for _, number := range append(farNumbers(), -1, 1000, 1001, 65536) {
		list = append(list, impl.Event{Kind: 1, N: 1, Pick: number}, impl.Event{Kind: 1, N: number, Pick: 1}, impl.Event{Kind: 1, N: number, Pick: number}, impl.Event{Kind: 3, Pick: number})
	}
	for _, number := range append(farNumbers(), -1, 1, 2, 30, 999, 1000) {
		list = append(list, impl.Event{Kind: 2, Pick: number}, impl.Event{Kind: 2, N: 1, Pick: number}, impl.Event{Kind: 2, N: -1, Pick: number}, impl.Event{Kind: 3, N: number}, impl.Event{Kind: 3, N: number, Pick: 1}, impl.Event{Kind: 3, N: number, Pick: -1})
	}
	for _, n := range []int64{0, 31, 32, 999} {
		list = append(list, impl.Event{Kind: 1, N: n}, impl.Event{Kind: 1, N: n, Pick: 999}, impl.Event{Kind: 1, N: n, Pick: -1})
	}
	return list
}

// fewEvents have each kind, with the edges of what is right and with what is wrong.
func fewEvents() []impl.Event {
	return []impl.Event{
		{Kind: 1, N: 1}, {Kind: 1, N: 4, Pick: 3}, {Kind: 1, N: 30, Pick: 999}, {Kind: 2}, {Kind: 2, N: 1}, {Kind: 3}, {Kind: 3, Pick: 2}, {Kind: 3, Pick: 999},
		{}, {Kind: 4}, {Kind: 1}, {Kind: 1, N: 31}, {Kind: 1, N: 1, Pick: -1}, {Kind: 1, N: 1, Pick: 1000}, {Kind: 2, N: 9}, {Kind: 2, N: -1}, {Kind: 2, Pick: 1}, {Kind: 3, N: 1}, {Kind: 3, Pick: -1},
		{Kind: 2, N: math.MaxInt64}, {Kind: 2, N: math.MinInt64}, {Kind: math.MinInt64, N: math.MaxInt64, Pick: math.MaxInt64},
	}
}

// anyEvent is right for a system of so many domains.
func anyEvent(source *rand.Rand, domains int) impl.Event {
	pick := []int64{0, source.Int63n(9), source.Int63n(1000), 999}[source.Intn(4)]
	switch source.Intn(5) {
	case 0:
		return impl.Event{Kind: impl.EventSwitch, N: source.Int63n(int64(domains))}
	case 1:
		return impl.Event{Kind: impl.EventEvict, Pick: pick}
	}
	return impl.Event{Kind: impl.EventRun, N: []int64{1, 1 + source.Int63n(6), 1 + source.Int63n(30)}[source.Intn(3)], Pick: pick}
}

func anyEvents(source *rand.Rand, domains, many int) []impl.Event {
	list := []impl.Event{}
	for range many {
		list = append(list, anyEvent(source, domains))
	}
	return list
}

// anyCache is true of the tables, of any size.
func anyCache(source *rand.Rand, x impl.Tables) impl.Cache {
	c, lines := impl.Cache{Size: source.Int63n(7)}, trueLines(x)
	for _, n := range source.Perm(len(lines))[:source.Intn(1+min(int(c.Size), len(lines)))] {
		c.Lines = append(c.Lines, lines[n])
	}
	return c
}

// busy is a system whose programs go on for longer than words that come as they will: most of its words are no halt, are of
// tags that who is active may run, jump and load within the memory, and the last one jumps back to the first.
func busy(t *testing.T, source *rand.Rand, all []impl.Tables) impl.System {
	t.Helper()
	s := cloneSystem(anySystem(t, source, all))
	likelyCalls(source, &s)
	many, tags := int64(len(s.Memory.Words)), []int64{}
	for _, l := range trueLines(s.Tables) {
		if l.Domain == s.Active && l.Perm > 0 {
			tags = append(tags, l.Tag)
		}
	}
	if source.Intn(8) == 0 || many == 0 || len(tags) == 0 {
		return s
	}
	for place := range s.Memory.Words {
		w := &s.Memory.Words[place]
		w.Value = busyWord(source, w.Value, many)
		if source.Intn(5) > 0 {
			w.Tag = tags[source.Intn(len(tags))]
		}
	}
	s.Memory.Words[many-1].Value = 6 * 4096
	for domain := range s.Contexts {
		s.Contexts[domain].Pc %= many
		for n := range 7 {
			s.Contexts[domain].Regs[n] %= 5
		}
	}
	return s
}

// busyWord is seldom a halt or a word that is no instruction, and is about words of a memory of so many.
func busyWord(source *rand.Rand, value, many int64) int64 {
	if op := value / 4096; (op == 0 || op > 10) && source.Intn(12) > 0 {
		value = (1+source.Int63n(10))*4096 + value%4096
	}
	switch op := value / 4096; op {
	case 4, 5, 6, 7:
		return value/64*64 + source.Int63n(many)
	}
	return value
}
