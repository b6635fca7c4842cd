package tests

// Promise 1, for what is seen: every function answers at every argument, ends, and changes none; what it answers is new memory; it hangs
// on the arguments alone.

import (
	"fmt"
	"math"
	"math/rand"
	"slices"
	"testing"

	"loop.example/g00530/impl"
)

// outlook is all that comes in to a call: a system and a kernel, who looks at them, and two parts of each that are held against each other.
type outlook struct {
	System        impl.System
	Kernel        impl.Kernel
	By            impl.Label
	Seen, Other   impl.Seen
	Ones, Another []impl.Object
}

// outlookOf holds what is seen by one label against what is seen by another one.
func outlookOf(s impl.System, k impl.Kernel, by, other impl.Label) outlook {
	return outlook{s, k, by, plainSeen(s, by).Seen, plainSeen(s, other).Seen, plainKernelSeen(k, by).Objects, plainKernelSeen(k, other).Objects}
}

// answers calls each function with what there is.
func (o outlook) answers() []any {
	return []any{
		impl.SeenBy(o.System, o.By), impl.IsQuiet(o.System, o.By), impl.KernelSeen(o.Kernel, o.By), impl.SameSeen(o.Seen, o.Other), impl.SameObjects(o.Ones, o.Another),
	}
}

func (o outlook) plainAnswers() []any {
	return []any{
		plainSeen(o.System, o.By), plainQuiet(o.System, o.By), plainKernelSeen(o.Kernel, o.By), sameSeen(o.Seen, o.Other), slices.EqualFunc(o.Ones, o.Another, sameObject),
	}
}

func (o outlook) clone() outlook {
	return outlook{
		cloneSystem(o.System), cloneKernel(o.Kernel), labelOf(slices.Clone(o.By.Levels)...), cloneSeen(o.Seen), cloneSeen(o.Other),
		cloneKernel(impl.Kernel{Objects: o.Ones}).Objects, cloneKernel(impl.Kernel{Objects: o.Another}).Objects,
	}
}

func roomySeen(x impl.Seen) impl.Seen {
	x = cloneSeen(x)
	for domain, c := range x.Contexts {
		x.Contexts[domain].Regs = roomyList(c.Regs, 1, 77)
	}
	for domain, l := range x.Labels {
		x.Labels[domain].Levels = roomyList(l.Levels, 1, 78)
	}
	x.Words, x.Contexts = roomyList(x.Words, impl.Word{Value: 9, Tag: 1}, impl.Word{Value: 77777, Tag: 78}), roomyList(x.Contexts, contextOf(5, 77))
	x.Labels, x.Out = roomyList(x.Labels, labelOf(1, 1, 1, 1)), roomyList(x.Out, 7, 77777)
	return x
}

// roomy has its lists in memory that goes on behind them, where a careless append or store would be seen.
func (o outlook) roomy() outlook {
	ones, another := roomyKernel(impl.Kernel{Objects: o.Ones}), roomyKernel(impl.Kernel{Objects: o.Another})
	return outlook{roomySystem(o.System), roomyKernel(o.Kernel), labelOf(roomyList(o.By.Levels, 1, 78)...), roomySeen(o.Seen), roomySeen(o.Other), ones.Objects, another.Objects}
}

func scrubSeen(x impl.Seen) {
	overwriteMemory(impl.Memory{Words: x.Words})
	for domain := range x.Contexts {
		overwrite(x.Contexts[domain].Regs)
		x.Contexts[domain].Pc = 99
	}
	for domain := range x.Labels {
		overwrite(x.Labels[domain].Levels)
	}
	overwrite(x.Out)
}

// scrub turns all memory of what came in, what lies behind the ends of its lists too.
func (o outlook) scrub() {
	scrub(o.System)
	scrubKernel(o.Kernel)
	overwrite(o.By.Levels)
	scrubSeen(o.Seen)
	scrubSeen(o.Other)
	scrubKernel(impl.Kernel{Objects: o.Ones})
	scrubKernel(impl.Kernel{Objects: o.Another})
}

func scrubSeenAnswer(answer any) {
	switch a := answer.(type) {
	case impl.SeenResult:
		scrubSeen(a.Seen)
	case impl.ObjectsResult:
		scrubKernel(impl.Kernel{Objects: a.Objects})
	}
}

// outlooks are right ones: of systems and kernels of each kind, by who sees all, some and nothing.
func outlooks(t *testing.T) []outlook {
	t.Helper()
	source, list := rand.New(rand.NewSource(156)), []outlook{}
	kernels, looks, all := kernelsOf(t), sights(t), runnable(t)
	for _, l := range looks {
		list = append(list, outlookOf(seenBase(t), kernel(t, standardKernel), l, label(t, "3333")), outlookOf(quietBase(quietTables(t)[2], 1), kernel(t, mixedKernel), l, l))
	}
	for n, s := range goodSystems(t) {
		list = append(list, outlookOf(s, kernels[n%len(kernels)], looks[n%len(looks)], looks[n*5%len(looks)]))
	}
	for range 150 {
		list = append(list, outlookOf(anySystem(t, source, all), anyKernel(source, 1+source.Intn(12)), anyWhich(source, 2, 4), anyWhich(source, 0, 5)))
	}
	for place, o := range list {
		list[place] = o.clone()
	}
	return list
}

// outlooksOfAndNot are right ones, and ones with a fault of each kind in each place.
func outlooksOfAndNot(t *testing.T) []outlook {
	t.Helper()
	list, base := outlooks(t), outlookOf(seenBase(t), kernel(t, standardKernel), label(t, "1311"), label(t, "1111"))
	add := func(turn func(o *outlook)) {
		o := base.clone()
		turn(&o)
		list = append(list, o)
	}
	for n, f := range faultySystems(t) {
		if n%23 == 0 && len(f.system.Out) < 100 && len(f.system.Memory.Words) < 100 {
			add(func(o *outlook) { o.System = f.system })
		}
	}
	for n, f := range faultyKernels(t) {
		if n%9 == 0 && len(f.kernel.Objects) < 40 {
			add(func(o *outlook) {
				o.Kernel, o.Ones, o.Another = f.kernel, f.kernel.Objects, cloneKernel(f.kernel).Objects
			})
		}
	}
	for _, f := range faultyLabels() {
		add(func(o *outlook) { o.By = f.label })
		add(func(o *outlook) { o.System, o.Kernel, o.By = impl.System{}, impl.Kernel{}, f.label })
	}
	for n, x := range seenTurns(base.Seen) {
		if n%5 == 0 {
			add(func(o *outlook) { x.turn(&o.Seen) })
		}
	}
	return append(list, base, outlook{}, outlook{System: base.System, Kernel: base.Kernel}, outlook{By: base.By})
}

// wantOutlook holds all answers against what is told plainly.
func wantOutlook(t *testing.T, o outlook) {
	t.Helper()
	if a, b := told(o.answers()), told(o.plainAnswers()); a != b {
		t.Errorf("%v: %s; want %s", o, a, b)
	}
}

func TestSeenAnswersArePlain(t *testing.T) {
	for _, o := range outlooksOfAndNot(t) {
		wantOutlook(t, o)
	}
}

// labelsOfAndNot are good ones, ones that no thing has, and faulty ones, each with the code of its fault.
func labelsOfAndNot(t *testing.T) []faultyLabel {
	t.Helper()
	list := faultyLabels()
	for _, l := range append(sights(t), notThings(t)...) {
		list = append(list, faultyLabel{fmt.Sprint(l.Levels), l, impl.OK})
	}
	return list
}

// A fault of the system is told whatever the label is; one of the label where the system has none; and of both that of the system.
func TestSeenFaultsOfSystemsComeFirst(t *testing.T) {
	byFew := labelsOfAndNot(t)
	for n, f := range faultySystems(t) {
		for m, l := range byFew {
			if (n+m)%6 == 0 || m == 0 {
				wantNoSeen(t, f.name+", by "+l.name, impl.SeenBy(f.system, l.label), f.code)
				wantQuiet(t, f.name+", by "+l.name, f.system, l.label, false)
			}
		}
	}
	many, good, wrong := 0, label(t, "1111"), labelOf(1, 1, 1)
	eachManyFaulty(t, func(f faultySystem) {
		if many++; many%5 == 0 {
			wantNoSeen(t, f.name, impl.SeenBy(f.system, good), f.code)
			wantNoSeen(t, f.name+", by too few", impl.SeenBy(f.system, wrong), f.code)
			wantQuiet(t, f.name, f.system, good, false)
		}
	})
	for _, s := range []impl.System{impl.NewBench().Bench.System, seenBase(t), quietBase(quietTables(t)[1], 2)} {
		for _, l := range faultyLabels() {
			wantNoSeen(t, l.name, impl.SeenBy(s, l.label), l.code)
			wantQuiet(t, l.name, s, l.label, false)
		}
	}
}

func TestSeenFaultsOfKernelsComeFirst(t *testing.T) {
	byFew := labelsOfAndNot(t)
	for n, f := range faultyKernels(t) {
		for m, l := range byFew {
			if (n+m)%4 == 0 || m == 0 {
				wantNoObjects(t, f.name+", by "+l.name, impl.KernelSeen(f.kernel, l.label), f.code)
			}
		}
	}
	for _, text := range goodKernels() {
		for _, l := range faultyLabels() {
			wantNoObjects(t, l.name+" of "+text, impl.KernelSeen(kernel(t, text), l.label), l.code)
		}
	}
	// Of several faults of the kernel the first one is told, whatever the label is.
	source, codes := rand.New(rand.NewSource(157)), map[int64]int{}
	for range 6000 {
		k := anyKernel(source, 1+source.Intn(12))
		for range source.Intn(4) {
			spoilKernel(&k, source)
		}
		l := byFew[source.Intn(len(byFew))]
		code := firstCode(plainKernelFault(k), l.code)
		codes[code]++
		if code != impl.OK {
			wantNoObjects(t, "spoilt", impl.KernelSeen(k, l.label), code)
		} else {
			wantObjectsOf(t, k, l.label)
		}
	}
	for _, code := range []int64{impl.OK, impl.ErrForm, impl.ErrMany, impl.ErrRange, impl.ErrNone, impl.ErrFull, impl.ErrState} {
		if codes[code] < 30 {
			t.Errorf("too few of code %d: %v", code, codes)
		}
	}
}

// A level that leaves its bounds, and one too few or too many, at each category of each function.
func TestSeenLabelsOutOfBounds(t *testing.T) {
	s, k := impl.NewBench().Bench.System, kernel(t, standardKernel)
	for category := range 4 {
		for _, level := range append(farNumbers(), -1, -3, 6, 7, 1<<32+1, 1<<8+1) {
			l := label(t, "3333")
			l.Levels[category] = level
			wantNoSeen(t, fmt.Sprint(l), impl.SeenBy(s, l), impl.ErrRange)
			wantNoObjects(t, fmt.Sprint(l), impl.KernelSeen(k, l), impl.ErrRange)
			wantQuiet(t, "out of bounds", s, l, false)
		}
	}
	for _, many := range []int{0, 1, 2, 3, 5, 6, 8, 100000} {
		l := impl.Label{Levels: slices.Repeat([]int64{4}, many)}
		wantNoSeen(t, fmt.Sprint(many, " levels"), impl.SeenBy(s, l), impl.ErrMany)
		wantNoObjects(t, fmt.Sprint(many, " levels"), impl.KernelSeen(k, l), impl.ErrMany)
		wantQuiet(t, fmt.Sprint(many, " levels"), s, l, false)
	}
}

// emptiedLooks are the lists of what comes in, each of which can be told as nil, and as an empty one behind which memory lies.
func emptiedLooks() map[string]func(o *outlook, empty bool) {
	turns := map[string]func(o *outlook, empty bool){
		"by":      func(o *outlook, empty bool) { o.By.Levels = listOr(o.By.Levels, empty) },
		"objects": func(o *outlook, empty bool) { o.Kernel.Objects = listOr(o.Kernel.Objects, empty) },
		"ones":    func(o *outlook, empty bool) { o.Ones = listOr(o.Ones, empty) },
		"another": func(o *outlook, empty bool) { o.Another = listOr(o.Another, empty) },
		"data": func(o *outlook, empty bool) {
			for place := range o.Kernel.Objects {
				o.Kernel.Objects[place].Data = listOr(o.Kernel.Objects[place].Data, empty)
			}
			for place := range o.Ones {
				o.Ones[place].Data = listOr(o.Ones[place].Data, empty)
			}
		},
		"levels of objects": func(o *outlook, empty bool) {
			for place := range o.Ones {
				o.Ones[place].Label.Levels = listOr(o.Ones[place].Label.Levels, empty)
			}
		},
		"seen words":    func(o *outlook, empty bool) { o.Seen.Words = listOr(o.Seen.Words, empty) },
		"seen contexts": func(o *outlook, empty bool) { o.Seen.Contexts = listOr(o.Seen.Contexts, empty) },
		"seen labels":   func(o *outlook, empty bool) { o.Seen.Labels = listOr(o.Seen.Labels, empty) },
		"seen out":      func(o *outlook, empty bool) { o.Seen.Out = listOr(o.Seen.Out, empty) },
		"seen rows": func(o *outlook, empty bool) {
			for domain := range o.Seen.Contexts {
				o.Seen.Contexts[domain].Regs, o.Seen.Labels[domain].Levels = listOr(o.Seen.Contexts[domain].Regs, empty), listOr(o.Seen.Labels[domain].Levels, empty)
			}
		},
	}
	for name, turn := range emptyLists() {
		turns["system: "+name] = func(o *outlook, empty bool) { turn(&o.System, empty) }
	}
	return turns
}

func TestSeenNilIsEmpty(t *testing.T) {
	for _, base := range outlooks(t) {
		for name, turn := range emptiedLooks() {
			none, empty := base.clone(), base.clone()
			turn(&none, false)
			turn(&empty, true)
			if a, b := told(none.answers()), told(empty.answers()); a != b {
				t.Errorf("%s: without a list %s, with an empty one %s", name, a, b)
			}
			wantSameSeen(t, name, none.Seen, empty.Seen, true)
			wantSameObjects(t, name, none.Ones, empty.Ones, true)
		}
	}
}

func TestSeenArgumentsStay(t *testing.T) {
	wantArgumentsStay(t, outlooksOfAndNot(t))
}

func TestSeenAnswersHangOnNoCapacity(t *testing.T) {
	wantNoCapacityAsked(t, outlooksOfAndNot(t))
}

func TestSeenAnswersAreNewMemory(t *testing.T) {
	wantNewMemory(t, outlooks(t))
}

func TestSeenAnswersStay(t *testing.T) {
	wantAnswersStay(t, outlooks(t), scrubSeenAnswer)
}

// Lists that come in and share memory are answered as any others, and are apart in what is answered.
func TestSeenListsThatWereShared(t *testing.T) {
	shared := []int64{0, 1, 3, 0, 0, 0, 0, 0}
	s := seenBase(t)
	for domain := range s.Contexts {
		s.Contexts[domain].Regs = shared
	}
	s.Out, s.Tables.Tags = shared[1:3], shared[:3]
	levels := []int64{2, 2, 2, 2, 2, 2}
	k := impl.Kernel{Objects: []impl.Object{{Up: -1, Kind: 1, Label: impl.Label{Levels: levels[:4]}, Quota: 50, Next: 4}}}
	for name := int64(3); name >= 1; name-- {
		k.Objects = append(k.Objects, impl.Object{Name: name, Kind: 2, Label: impl.Label{Levels: levels[:4]}, Quota: 8, Data: levels})
	}
	seen := impl.SeenBy(s, label(t, "3333")).Seen
	for _, by := range []impl.Label{{Levels: levels[:4]}, label(t, "3333"), label(t, "0000")} {
		o := outlook{s, k, by, seen, seen, k.Objects, k.Objects}
		was := wholeTold(o)
		answers := o.answers()
		if a, b := told(answers), told(o.clone().answers()); a != b || a != told(o.plainAnswers()) {
			t.Errorf("shared %s, apart %s, want %v", a, b, o.plainAnswers())
		}
		for n, answer := range answers {
			wantApart(t, fmt.Sprint("answer ", n), answer, o)
			scrubSeenAnswer(answer)
		}
		if now := wholeTold(o); now != was {
			t.Errorf("%s became %s", was, now)
		}
	}
}

// What is done with what was seen turns nothing of a system that was answered by it, nor of what is seen of it later.
func TestSeenAnswersBranch(t *testing.T) {
	s, l := seenBase(t), label(t, "3333")
	first := impl.SeenBy(s, l)
	step := impl.StepSystem(s, 0).System
	second := impl.SeenBy(step, l)
	was, wasSecond := told(first), told(second)
	scrubSeen(impl.SeenBy(s, l).Seen)
	scrub(step)
	if told(first) != was || told(second) != wasSecond {
		t.Errorf("%s and %s became %v and %v", was, wasSecond, first, second)
	}
	k := kernel(t, standardKernel)
	seen := impl.KernelSeen(k, l)
	wasSeen := told(seen)
	more := impl.AskKernel(impl.Kernel{Objects: seen.Objects}, label(t, "****"), ask(t, "write 2 0 9 9"))
	if told(seen) != wasSeen || more.Code != impl.OK || !sameKernel(k, kernel(t, standardKernel)) {
		t.Errorf("%s became %v, beside %v", wasSeen, seen, more)
	}
}

// Whatever comes in, each call is answered: by a code and nothing else, or by what is so.
func TestSeenFunctionsAnswerAlways(t *testing.T) {
	source, all := rand.New(rand.NewSource(158)), runnable(t)
	systems, kernels, quiet := map[int64]int{}, map[int64]int{}, 0
	number := func() int64 { return int64(source.Uint64()) >> source.Intn(64) }
	for range 8000 {
		s, k, by := cloneSystem(anySystem(t, source, all)), anyKernel(source, 1+source.Intn(12)), anyWhich(source, 1, 4)
		other := anyWhich(source, 0, 5)
		o := outlookOf(s, k, by, other).clone()
		switch source.Intn(8) {
		case 0:
			o.By = spoiltLabel(source, by)
		case 1:
			o.By = labelOf(number(), number(), source.Int63n(6), source.Int63n(6))
		case 2, 3:
			spoil(&o.System, source)
			spoilKernel(&o.Kernel, source)
		case 4:
			turns := seenTurns(seenBaseSeen())
			o.Seen, o.Other = seenBaseSeen(), seenBaseSeen()
			turns[source.Intn(len(turns))].turn(&o.Seen)
		}
		wantOutlook(t, o)
		if t.Failed() {
			return
		}
		systems[plainSeen(o.System, o.By).Code]++
		kernels[plainKernelSeen(o.Kernel, o.By).Code]++
		if plainQuiet(o.System, o.By) {
			quiet++
		}
	}
	for _, code := range []int64{impl.OK, impl.ErrForm, impl.ErrMany, impl.ErrRange, impl.ErrNone} {
		if systems[code] < 20 || kernels[code] < 20 {
			t.Errorf("too few systems, or kernels, of code %d: %v and %v", code, systems, kernels)
		}
	}
	if quiet < 500 || quiet > 6000 {
		t.Errorf("%d of 8000 are quiet", quiet)
	}
}

// seenBaseSeen has something in each list.
func seenBaseSeen() impl.Seen {
	return impl.Seen{Words: []impl.Word{{Value: 1, Tag: 2}, {}, {Value: 65535, Tag: 1}}, Contexts: []impl.Context{contextOf(0, 3), contextOf(1, 4)}, Labels: []impl.Label{labelOf(1, 2, 3, 4), labelOf(2, 2, 2, 2)}, Out: []int64{7, 8}}
}

func TestSeenFunctionsOfLongLists(t *testing.T) {
	long := slices.Repeat([]int64{4}, 100000)
	s, l := seenBase(t), label(t, "3333")
	wantNoSeen(t, "long out", impl.SeenBy(turned(s, func(s *impl.System) { s.Out = long }), l), impl.ErrMany)
	wantNoSeen(t, "many words", impl.SeenBy(turned(s, func(s *impl.System) { s.Memory.Words = make([]impl.Word, 100000) }), l), impl.ErrMany)
	wantNoObjects(t, "many objects", impl.KernelSeen(impl.Kernel{Objects: make([]impl.Object, 100000)}, l), impl.ErrMany)
	wantNoSeen(t, "a far device", impl.SeenBy(turned(s, func(s *impl.System) { s.Device = math.MinInt64 }), l), impl.ErrNone)
	wantSameSeen(t, "long lists", impl.Seen{Out: long, Words: make([]impl.Word, 100000)}, impl.Seen{Out: slices.Clone(long), Words: make([]impl.Word, 100000)}, true)
	wantSameSeen(t, "long lists", impl.Seen{Out: long}, impl.Seen{Out: append(slices.Clone(long[1:]), 5)}, false)
	wantSameObjects(t, "long lists", make([]impl.Object, 100000), make([]impl.Object, 99999), false)
}

func TestSeenAnswersHangOnArgumentsAlone(t *testing.T) {
	wantArgumentsAlone(t, outlooks(t)[:12], outlooksOfAndNot(t))
}
