package tests

import (
	"fmt"
	"math/rand"
	"slices"
	"strings"
	"testing"

	"loop.example/g00530/impl"
)

// plainSeen tells as plainly as can be what somebody with a label sees of a system, whatever comes in.
func plainSeen(s impl.System, l impl.Label) impl.SeenResult {
	if code := firstCode(plainSystemFault(s), plainLabelFault(l)); code != impl.OK {
		return impl.SeenResult{Code: code}
	}
	h, seen := holdingOf(s.Tables), impl.Seen{}
	for _, w := range s.Memory.Words {
		if w.Tag == 0 || plainAbove(h.tags[w.Tag-1], l) {
			w = impl.Word{Value: 0, Tag: 0}
		}
		seen.Words = append(seen.Words, w)
	}
	for domain, c := range s.Contexts {
		who := h.domains[domain]
		if plainAbove(who, l) {
			who, c = impl.Label{}, impl.Context{}
		}
		seen.Contexts, seen.Labels = append(seen.Contexts, c), append(seen.Labels, who)
	}
	if !plainAbove(h.tags[s.Device-1], l) {
		seen.Out = s.Out
	}
	return impl.SeenResult{Seen: cloneSeen(seen)}
}

func plainQuiet(s impl.System, l impl.Label) bool {
	if plainSystemFault(s) != impl.OK || plainThingFault(l) != impl.OK {
		return false
	}
	return !slices.ContainsFunc(holdingOf(s.Tables).domains, func(who impl.Label) bool { return slices.Contains(who.Levels, 0) })
}

// plainKernelSeen asks of each object the labels on its whole path, and finds the box that it is in by its path.
func plainKernelSeen(k impl.Kernel, l impl.Label) impl.ObjectsResult {
	if code := firstCode(plainKernelFault(k), plainLabelFault(l)); code != impl.OK {
		return impl.ObjectsResult{Code: code}
	}
	seen, places := []impl.Object{}, map[string]int64{}
	for place, path := range plainPaths(k) {
		if plainHidden(k, path, l) {
			continue
		}
		o := k.Objects[place]
		if len(path) > 0 {
			o.Up = places[fmt.Sprint(path[:len(path)-1])]
		}
		places[fmt.Sprint(path)] = int64(len(seen))
		seen = append(seen, o)
	}
	return impl.ObjectsResult{Objects: cloneKernel(impl.Kernel{Objects: seen}).Objects}
}

// plainHidden tells whether something on the way to an object, or the object itself, is not below the label.
func plainHidden(k impl.Kernel, path []int64, l impl.Label) bool {
	for ahead := range len(path) + 1 {
		if plainAbove(k.Objects[plainFind(k, path[:ahead]).Value].Label, l) {
			return true
		}
	}
	return false
}

func cloneSeen(x impl.Seen) impl.Seen {
	x.Words, x.Contexts, x.Labels, x.Out = slices.Clone(x.Words), slices.Clone(x.Contexts), slices.Clone(x.Labels), slices.Clone(x.Out)
	for domain := range x.Contexts {
		x.Contexts[domain].Regs = slices.Clone(x.Contexts[domain].Regs)
	}
	for domain := range x.Labels {
		x.Labels[domain].Levels = slices.Clone(x.Labels[domain].Levels)
	}
	return x
}

func turnedSeen(x impl.Seen, turn func(x *impl.Seen)) impl.Seen {
	x = cloneSeen(x)
	turn(&x)
	return x
}

// sameSeen compares by all that there is, where nil and empty lists are alike.
func sameSeen(a, b impl.Seen) bool {
	sameContext := func(a, b impl.Context) bool {
		return slices.Equal(a.Regs, b.Regs) && a.Pc == b.Pc && a.Halted == b.Halted
	}
	return slices.Equal(a.Words, b.Words) && slices.EqualFunc(a.Contexts, b.Contexts, sameContext) &&
		slices.EqualFunc(a.Labels, b.Labels, sameLabel) && slices.Equal(a.Out, b.Out)
}

func wantSeen(t *testing.T, what string, got impl.SeenResult, want impl.Seen) {
	t.Helper()
	if got.Code != impl.OK || !sameSeen(got.Seen, want) {
		t.Errorf("%s: %v; want %v", what, got, want)
	}
}

// wantNoSeen and wantNoObjects also ask that all but the code is zero.
func wantNoSeen(t *testing.T, what string, got impl.SeenResult, code int64) {
	t.Helper()
	if got.Code != code || !sameSeen(got.Seen, impl.Seen{}) {
		t.Errorf("%s: %v; want code %d and all else zero", what, got, code)
	}
}

func wantNoObjects(t *testing.T, what string, got impl.ObjectsResult, code int64) {
	t.Helper()
	if got.Code != code || len(got.Objects) != 0 {
		t.Errorf("%s: %v; want code %d and no objects", what, got, code)
	}
}

// wantSeenOf asks and holds the answer against what is told plainly.
func wantSeenOf(t *testing.T, s impl.System, l impl.Label) impl.Seen {
	t.Helper()
	got := impl.SeenBy(s, l)
	if want := plainSeen(s, l); got.Code != want.Code || !sameSeen(got.Seen, want.Seen) {
		t.Errorf("by %v of %v: %v; want %v", l.Levels, s, got, want)
	}
	return got.Seen
}

func wantQuiet(t *testing.T, what string, s impl.System, l impl.Label, want bool) {
	t.Helper()
	if got := impl.IsQuiet(s, l); got != want {
		t.Errorf("%s: quiet is %v; want %v: %v, and %v", what, got, want, l.Levels, s)
	}
}

func wantObjects(t *testing.T, what string, got impl.ObjectsResult, want []impl.Object) {
	t.Helper()
	if got.Code != impl.OK || !slices.EqualFunc(got.Objects, want, sameObject) {
		t.Errorf("%s: %v; want %v", what, got, want)
	}
}

// wantObjectsOf asks and holds the answer against what is told plainly.
func wantObjectsOf(t *testing.T, k impl.Kernel, l impl.Label) []impl.Object {
	t.Helper()
	got := impl.KernelSeen(k, l)
	if want := plainKernelSeen(k, l); got.Code != want.Code || !slices.EqualFunc(got.Objects, want.Objects, sameObject) {
		t.Errorf("by %v of %v: %v; want %v", l.Levels, k, got, want)
	}
	return got.Objects
}

// wantSameSeen and wantSameObjects ask both ways.
func wantSameSeen(t *testing.T, what string, a, b impl.Seen, want bool) {
	t.Helper()
	if impl.SameSeen(a, b) != want || impl.SameSeen(b, a) != want {
		t.Errorf("%s: same %v and %v; want %v: %v and %v", what, impl.SameSeen(a, b), impl.SameSeen(b, a), want, a, b)
	}
}

func wantSameObjects(t *testing.T, what string, a, b []impl.Object, want bool) {
	t.Helper()
	if impl.SameObjects(a, b) != want || impl.SameObjects(b, a) != want {
		t.Errorf("%s: same %v and %v; want %v: %v and %v", what, impl.SameObjects(a, b), impl.SameObjects(b, a), want, a, b)
	}
}

// labels reads labels with blanks between; - is one without levels.
func labels(t *testing.T, text string) []impl.Label {
	t.Helper()
	list := []impl.Label{}
	for _, word := range strings.Fields(text) {
		if word == "-" {
			list = append(list, impl.Label{})
			continue
		}
		list = append(list, label(t, word))
	}
	return list
}

// sights are labels that see nothing, some and all: things' labels, and ones with a star and a top.
func sights(t *testing.T) []impl.Label {
	t.Helper()
	return labels(t, "0000 1111 1311 3111 3311 1211 2222 2311 1333 0123 3210 3330 3333 *111 1*11 *3*3 **** J111 1J11 333J *J3J JJJJ")
}

// fewSights are enough where each step is asked: what is seen by them is nothing, some or all, of who is below them and who is not.
func fewSights(t *testing.T) []impl.Label {
	t.Helper()
	return labels(t, "0000 1111 1311 3111 1333 2222 0123 3333 *3*3 1J11")
}

// quietTables have nobody who owns anything: the tables of a bench; tags and domains of each of two categories, of none and of both, so
// that some are below others and some are not; as many tags as may be; two tags of one label, without which nobody marks words anew as
// others; and all those that the other layers are asked of.
func quietTables(t *testing.T) []impl.Tables {
	t.Helper()
	list := []impl.Tables{
		tables(t, "2:1111 2:1311 | 0 1 | 0 1"),
		tables(t, "2:1111 2:1311 2:3111 2:3311 | 0 1 2 3 | 0 1 2 3"),
		tables(t, "2:1111 2:1311 1:0000 1:3333 2:0123 1:3210 1:2222 | 0 1 2 3 4 5 | 0 1 6 4"),
		tables(t, "3:1111 3:1311 1:2222 | 0 1 1 0 | 0 1 2"),
	}
	for _, x := range runnable(t) {
		if owns := func(who impl.Label) bool { return slices.Contains(who.Levels, 0) }; !slices.ContainsFunc(holdingOf(x).domains, owns) {
			list = append(list, x)
		}
	}
	return list
}

// mayRunFirst is the first tag that the domain may run, or 0.
func mayRunFirst(x impl.Tables, domain int64) int64 {
	for _, l := range trueLines(x) {
		if l.Domain == domain && l.Perm > 0 {
			return l.Tag
		}
	}
	return 0
}

// quietBase has behind its first word, which domain may run, a word of each tag, the monitor's ahead; gates to all others; and registers that
// are 0 at first, so that a place of a word is the Imm of an instruction.
func quietBase(x impl.Tables, domain int64) impl.System {
	s := systemOf(x, impl.Word{Tag: mayRunFirst(x, domain)})
	s.Active, s.Out = domain, []int64{7, 65535}
	for tag := range int64(len(x.Tags)) + 1 {
		s.Memory.Words = append(s.Memory.Words, impl.Word{Value: 1000 + tag, Tag: tag})
	}
	many := int64(len(s.Contexts))
	for other := range s.Contexts {
		s.Contexts[other].Regs[0], s.Contexts[other].Halted = 0, int64(other) != domain
	}
	for by := int64(1); by <= 3; by++ {
		s.Gates = append(s.Gates, impl.Gate{Domain: (domain + by) % many, Entry: 8 + by})
	}
	return s
}

// quietStep is a system in which the next step is of one kind.
type quietStep struct {
	name   string
	system impl.System
}

// quietSteps have a step of each kind of instruction and each call, of each domain that is active, with words of each tag.
func quietSteps(t *testing.T, x impl.Tables) []quietStep {
	t.Helper()
	list := []quietStep{}
	for domain := range int64(len(x.Domains)) {
		base := quietBase(x, domain)
		add := func(text string, turn func(s *impl.System)) {
			s := turned(base, turn)
			s.Memory.Words[0].Value = plainWord(t, text)
			list = append(list, quietStep{fmt.Sprintf("%s by %d of %s", text, domain, tablesTold(x)), s})
		}
		for _, text := range []string{"halt 0 0 0", "set 5 0 9", "add 5 6 0", "sub 5 6 0", "jump 0 0 3", "zero 0 0 3", "zero 5 0 3", "copy 5 6 0", "bad11 0 0 0", "bad15 1 2 3", "call 0 0 0", "call 0 0 4", "call 0 0 5", "load 5 0 63", "store 5 0 63"} {
			add(text, nothing)
		}
		add("set 5 0 9", halts)
		for place := range int64(len(base.Memory.Words)) {
			add(fmt.Sprint("load 5 0 ", place), nothing)
			add(fmt.Sprint("store 5 0 ", place), nothing)
			add("set 5 0 9", func(s *impl.System) { who(s).Pc = place + 1 })
		}
		addQuietCalls(base, add)
		for device := int64(1); device <= int64(len(x.Tags)); device++ {
			for _, many := range []int{0, 2, 39, 40} {
				add("out 5 0 0", func(s *impl.System) { s.Device, s.Out = device, slices.Repeat([]int64{9}, many) })
			}
		}
	}
	return list
}

func addQuietCalls(base impl.System, add func(text string, turn func(s *impl.System))) {
	by := func(r ...int64) func(s *impl.System) {
		return func(s *impl.System) { copy(who(s).Regs[1:], r) }
	}
	tags := int64(len(base.Tables.Tags))
	for tag := range tags + 2 {
		add("call 0 0 1", by(tag))
		for place := range tags + 2 {
			add("call 0 0 2", by(place, 1, tag))
		}
		add("call 0 0 2", by(0, 2, tag))
		add("call 0 0 2", by(2, tags, tag))
	}
	for gate := range int64(4) {
		add("call 0 0 3", by(gate, 77))
	}
	add("call 0 0 3", by(0, 65535))
}

// withCaches are a system with a cache of none, one of nothing, and one of as much as the one who is active can have known.
func withCaches(s impl.System) []impl.System {
	lines := []impl.Line{}
	for _, l := range trueLines(s.Tables) {
		if l.Domain == s.Active && len(lines) < 6 {
			lines = append(lines, l)
		}
	}
	list := []impl.System{}
	for _, c := range []impl.Cache{{}, {Size: 2}, {Size: 6, Lines: lines}} {
		list = append(list, turned(s, func(s *impl.System) { s.Cache = c }))
	}
	return list
}

// hiddenTags are those of which the label sees no word: the monitor's is always one.
func hiddenTags(x impl.Tables, l impl.Label) []int64 {
	list := []int64{0}
	for n, what := range holdingOf(x).tags {
		if plainAbove(what, l) {
			list = append(list, int64(n)+1)
		}
	}
	return list
}

func hiddenDomains(x impl.Tables, l impl.Label) []int {
	list := []int{}
	for domain, who := range holdingOf(x).domains {
		if plainAbove(who, l) {
			list = append(list, domain)
		}
	}
	return list
}

// hiddenTurns turn one thing each that the label does not see of words, contexts and Out, or the cache.
func hiddenTurns(s impl.System, l impl.Label) []turning {
	list := []turning{}
	add := func(turn func(s *impl.System), name ...any) {
		list = append(list, turning{fmt.Sprintln(name...), turn})
	}
	tags := hiddenTags(s.Tables, l)
	for place, w := range s.Memory.Words {
		if !slices.Contains(tags, w.Tag) {
			continue
		}
		for _, value := range []int64{0, 65535, 9 * 4096} {
			add(func(s *impl.System) { s.Memory.Words[place].Value = value }, "word", place, "of the value", value)
		}
		for _, tag := range tags {
			add(func(s *impl.System) { s.Memory.Words[place].Tag = tag }, "word", place, "of the tag", tag)
		}
	}
	for _, domain := range hiddenDomains(s.Tables, l) {
		add(func(s *impl.System) { s.Contexts[domain].Pc += 3 }, "Pc of", domain)
		add(func(s *impl.System) { s.Contexts[domain].Halted = !s.Contexts[domain].Halted }, "halted", domain)
		add(func(s *impl.System) { s.Contexts[domain].Regs = []int64{9, 8, 7, 6, 5, 4, 3, 65535} }, "registers of", domain)
	}
	if slices.Contains(tags, s.Device) {
		for _, many := range []int{0, 1, 39, 40} {
			add(func(s *impl.System) { s.Out = slices.Repeat([]int64{5}, many) }, many, "went out")
		}
	}
	add(func(s *impl.System) { s.Cache = impl.Cache{} }, "a cache of none")
	add(func(s *impl.System) { s.Cache = withCaches(*s)[2].Cache }, "a cache of all")
	return list
}

// hideOther turns, as it comes, all that the label does not see of words, contexts and Out, and the cache.
func hideOther(s *impl.System, l impl.Label, source *rand.Rand) {
	number := func() int64 { return []int64{source.Int63n(65536), source.Int63n(33), 0}[source.Intn(3)] }
	tags := hiddenTags(s.Tables, l)
	for place, w := range s.Memory.Words {
		if slices.Contains(tags, w.Tag) {
			s.Memory.Words[place] = impl.Word{Value: number(), Tag: tags[source.Intn(len(tags))]}
		}
	}
	for _, domain := range hiddenDomains(s.Tables, l) {
		c := &s.Contexts[domain]
		c.Pc, c.Halted = number(), source.Intn(2) == 0
		for n := range c.Regs {
			c.Regs[n] = number()
		}
	}
	if slices.Contains(tags, s.Device) {
		s.Out = make([]int64, []int{0, 40, source.Intn(41)}[source.Intn(3)])
		for n := range s.Out {
			s.Out[n] = number()
		}
	}
	s.Cache = anyCache(source, s.Tables)
}

// seenTurn turns one part of what is seen.
type seenTurn struct {
	name string
	turn func(x *impl.Seen)
}

// seenTurns are all parts in which what is seen can differ from base, of which no list is empty.
func seenTurns(base impl.Seen) []seenTurn {
	list := []seenTurn{}
	add := func(turn func(x *impl.Seen), name ...any) {
		list = append(list, seenTurn{fmt.Sprintln(name...), turn})
	}
	for _, by := range []int64{1, -1, 1 << 32, -1 << 63} {
		for place := range base.Words {
			add(func(x *impl.Seen) { x.Words[place].Value += by }, "value of word", place, "by", by)
			add(func(x *impl.Seen) { x.Words[place].Tag += by }, "tag of word", place, "by", by)
		}
		for domain, c := range base.Contexts {
			for n := range c.Regs {
				add(func(x *impl.Seen) { x.Contexts[domain].Regs[n] += by }, "register", n, "of", domain, "by", by)
			}
			add(func(x *impl.Seen) { x.Contexts[domain].Pc += by }, "Pc of", domain, "by", by)
		}
		for domain, l := range base.Labels {
			for category := range l.Levels {
				add(func(x *impl.Seen) { x.Labels[domain].Levels[category] += by }, "level", category, "of", domain, "by", by)
			}
		}
		for n := range base.Out {
			add(func(x *impl.Seen) { x.Out[n] += by }, "out", n, "by", by)
		}
	}
	for domain := range base.Contexts {
		add(func(x *impl.Seen) { x.Contexts[domain].Halted = !x.Contexts[domain].Halted }, "halted", domain)
		add(func(x *impl.Seen) { x.Contexts[domain].Regs = append(x.Contexts[domain].Regs, 0) }, "a register more", domain)
		add(func(x *impl.Seen) { x.Contexts[domain].Regs = x.Contexts[domain].Regs[:7] }, "a register fewer", domain)
		add(func(x *impl.Seen) { x.Contexts[domain].Regs = nil }, "no registers", domain)
		add(func(x *impl.Seen) { x.Labels[domain].Levels = append(x.Labels[domain].Levels, 0) }, "a level more", domain)
		add(func(x *impl.Seen) { x.Labels[domain].Levels = x.Labels[domain].Levels[:3] }, "a level fewer", domain)
		add(func(x *impl.Seen) { x.Labels[domain].Levels = nil }, "no levels", domain)
	}
	return append(list, seenLengthTurns()...)
}

func seenLengthTurns() []seenTurn {
	return []seenTurn{
		{"a word more", func(x *impl.Seen) { x.Words = append(x.Words, impl.Word{}) }},
		{"a word fewer", func(x *impl.Seen) { x.Words = x.Words[:len(x.Words)-1] }},
		{"without the first word", func(x *impl.Seen) { x.Words = x.Words[1:] }},
		{"words in another order", func(x *impl.Seen) { slices.Reverse(x.Words) }},
		{"no words", func(x *impl.Seen) { x.Words = nil }},
		{"a context more", func(x *impl.Seen) { x.Contexts = append(x.Contexts, impl.Context{}) }},
		{"a context fewer", func(x *impl.Seen) { x.Contexts = x.Contexts[:len(x.Contexts)-1] }},
		{"contexts in another order", func(x *impl.Seen) { slices.Reverse(x.Contexts) }},
		{"no contexts", func(x *impl.Seen) { x.Contexts = nil }},
		{"a label more", func(x *impl.Seen) { x.Labels = append(x.Labels, impl.Label{}) }},
		{"a label fewer", func(x *impl.Seen) { x.Labels = x.Labels[:len(x.Labels)-1] }},
		{"labels in another order", func(x *impl.Seen) { slices.Reverse(x.Labels) }},
		{"no labels", func(x *impl.Seen) { x.Labels = nil }},
		{"one more out", func(x *impl.Seen) { x.Out = append(x.Out, 0) }},
		{"one fewer out", func(x *impl.Seen) { x.Out = x.Out[:len(x.Out)-1] }},
		{"out in another order", func(x *impl.Seen) { slices.Reverse(x.Out) }},
		{"nothing out", func(x *impl.Seen) { x.Out = nil }},
	}
}
