package tests

// Promise 1, for objects of a kernel: every function answers at every argument, ends, and changes none; what it answers is new
// memory; it hangs on the arguments alone.

import (
	"fmt"
	"math"
	"math/rand"
	"slices"
	"strings"
	"testing"

	"loop.example/g00530/impl"
)

// kernelQuestion is a call of a function of this layer with a kernel, and what it answers.
type kernelQuestion struct {
	name string
	ask  func(k impl.Kernel) any
}

func finds(path ...int64) kernelQuestion {
	return kernelQuestion{fmt.Sprintf("FindObject(%v)", path), func(k impl.Kernel) any { return impl.FindObject(k, path) }}
}

func asksPath(object int64) kernelQuestion {
	return kernelQuestion{fmt.Sprintf("PathOf(%d)", object), func(k impl.Kernel) any { return impl.PathOf(k, object) }}
}

func asksFree(object int64) kernelQuestion {
	return kernelQuestion{fmt.Sprintf("FreeOf(%d)", object), func(k impl.Kernel) any { return impl.FreeOf(k, object) }}
}

func asksKids(object int64) kernelQuestion {
	return kernelQuestion{fmt.Sprintf("KidsOf(%d)", object), func(k impl.Kernel) any { return impl.KidsOf(k, object) }}
}

// refusedQuestions are answered by the kernel's fault where it has one, and by all else only where it has none.
func refusedQuestions() []kernelQuestion {
	list := []kernelQuestion{finds(), finds(2), finds(4, 5), finds(4, 5, 8), finds(2, 1), finds(0), finds(-1), finds(7, math.MinInt64), finds(math.MaxInt64), finds(slices.Repeat([]int64{1}, 40)...)}
	for _, object := range []int64{0, 1, 2, 3, 5, 6, 7, 11, 12, -1, 1 << 32, math.MinInt64, math.MaxInt64} {
		list = append(list, asksPath(object), asksFree(object), asksKids(object))
	}
	return list
}

// kernelQuestions have each function, with what is right and with what is wrong.
func kernelQuestions() []kernelQuestion {
	list := append(refusedQuestions(), kernelQuestion{"KernelFault", func(k impl.Kernel) any { return impl.KernelFault(k) }})
	list = append(list, kernelQuestion{"SameKernels", func(k impl.Kernel) any {
		return []bool{impl.SameKernels(k, k), impl.SameKernels(k, impl.Kernel{}), impl.SameKernels(impl.Kernel{}, k)}
	}})
	for _, quota := range []int64{0, 7, 200, 201, -1, math.MinInt64, math.MaxInt64} {
		list = append(list, makesKernel(quota))
	}
	return list
}

// makesKernel takes the label of the last object, or none.
func makesKernel(quota int64) kernelQuestion {
	return kernelQuestion{fmt.Sprintf("NewKernel(.., %d)", quota), func(k impl.Kernel) any {
		l := impl.Label{}
		if many := len(k.Objects); many > 0 {
			l = k.Objects[many-1].Label
		}
		return impl.NewKernel(l, quota)
	}}
}

func kernelAnswers(k impl.Kernel) string {
	answers := []string{}
	for _, q := range kernelQuestions() {
		answers = append(answers, q.name+": "+told(q.ask(k)))
	}
	return strings.Join(answers, "; ")
}

func kernelsOf(t *testing.T) []impl.Kernel {
	t.Helper()
	list := []impl.Kernel{kernel(t, standardKernel)}
	for _, text := range goodKernels() {
		list = append(list, kernel(t, text))
	}
	source := rand.New(rand.NewSource(124))
	for range 60 {
		list = append(list, anyKernel(source, 1+source.Intn(12)))
	}
	return list
}

// kernelsOfAndNot are right ones, and wrong ones of each kind.
func kernelsOfAndNot(t *testing.T) []impl.Kernel {
	t.Helper()
	list := kernelsOf(t)
	for _, f := range faultyKernels(t) {
		if len(f.kernel.Objects) < 40 {
			list = append(list, f.kernel)
		}
	}
	return append(list, impl.Kernel{}, impl.Kernel{Objects: make([]impl.Object, 1)})
}

// roomyKernel has its lists in memory that goes on behind them, where a careless append or store would be seen.
func roomyKernel(k impl.Kernel) impl.Kernel {
	k = cloneKernel(k)
	for place, o := range k.Objects {
		k.Objects[place].Label.Levels, k.Objects[place].Data = roomyList(o.Label.Levels, 1, 78), roomyList(o.Data, 5, 77777)
	}
	more := impl.Object{Up: 0, Name: 1, Kind: 2, Label: labelOf(1, 1, 1, 1), Quota: 1}
	k.Objects = roomyList(k.Objects, more, impl.Object{Up: 77, Name: 78, Kind: 79})
	return k
}

// scrubKernel turns all memory of a kernel, what lies behind the ends of its lists too.
func scrubKernel(k impl.Kernel) {
	whole := k.Objects[:cap(k.Objects)]
	for place, o := range whole {
		overwrite(o.Label.Levels)
		overwrite(o.Data)
		whole[place] = impl.Object{Up: 97, Name: 98, Kind: 99}
	}
}

// A fault of the kernel is told whatever path and place are, right or wrong, and nothing else is told then.
func TestObjectFaultsComeFirst(t *testing.T) {
	for _, f := range faultyKernels(t) {
		for _, q := range refusedQuestions() {
			switch got := q.ask(f.kernel).(type) {
			case impl.IntResult:
				wantNoInt(t, q.name+": "+f.name, got, f.code)
			case impl.IntsResult:
				wantNoInts(t, q.name+": "+f.name, got, f.code)
			default:
				t.Fatalf("%s: %v", q.name, got)
			}
		}
	}
}

// Of two faults the first one is told by all.
func TestObjectFaultsComeFirstOfSeveral(t *testing.T) {
	source, codes := rand.New(rand.NewSource(125)), map[int64]int{}
	for range 3000 {
		k := anyKernel(source, 1+source.Intn(12))
		for range 2 + source.Intn(5) {
			spoilKernel(&k, source)
		}
		code := plainKernelFault(k)
		codes[code]++
		if code == impl.OK {
			continue
		}
		for _, q := range refusedQuestions() {
			if got := told(q.ask(k)); got != told(impl.IntResult{Code: code}) && got != told(impl.IntsResult{Code: code}) {
				t.Fatalf("%s of %v: %s; want code %d and all else zero", q.name, k, got, code)
			}
		}
	}
	for _, code := range []int64{impl.ErrForm, impl.ErrMany, impl.ErrRange, impl.ErrNone, impl.ErrFull, impl.ErrState} {
		if codes[code] < 10 {
			t.Errorf("too few kernels of code %d: %d", code, codes[code])
		}
	}
}

// Each list is told as nil, and as an empty one behind which memory lies.
func TestKernelNilIsEmpty(t *testing.T) {
	for _, base := range append(kernelsOf(t), impl.Kernel{}) {
		for name, turn := range map[string]func(k *impl.Kernel, empty bool){
			"objects": func(k *impl.Kernel, empty bool) { k.Objects = listOr(k.Objects, empty) },
			"data": func(k *impl.Kernel, empty bool) {
				for place := range k.Objects {
					k.Objects[place].Data = listOr(k.Objects[place].Data, empty)
				}
			},
			"levels": func(k *impl.Kernel, empty bool) {
				for place := range k.Objects {
					k.Objects[place].Label.Levels = listOr(k.Objects[place].Label.Levels, empty)
				}
			},
		} {
			none := turnedKernel(base, func(k *impl.Kernel) { turn(k, false) })
			empty := turnedKernel(base, func(k *impl.Kernel) { turn(k, true) })
			if a, b := kernelAnswers(none), kernelAnswers(empty); a != b {
				t.Errorf("%s: without a list %s, with an empty one %s", name, a, b)
			}
			wantSameKernels(t, name, none, empty, true)
		}
		if impl.FindObject(base, nil) != impl.FindObject(base, make([]int64, 0, 3)) {
			t.Errorf("no path and an empty one are not the same in %v", base)
		}
	}
	for name, levels := range map[string][]int64{"nil": nil, "empty": {}, "empty, with memory": {1, 1, 1, 1}} {
		wantNoKernel(t, name, impl.NewKernel(impl.Label{Levels: levels[:0]}, 5), impl.ErrMany)
	}
}

// Neither a kernel nor a path nor a label is changed, be what lies behind the ends of their lists as it may.
func TestKernelArgumentsStay(t *testing.T) {
	for _, given := range kernelsOfAndNot(t) {
		k, other := roomyKernel(given), roomyKernel(given)
		was, otherWas := wholeTold(k), wholeTold(other)
		for _, q := range kernelQuestions() {
			q.ask(k)
		}
		impl.SameKernels(k, other)
		if now := wholeTold(k); now != was {
			t.Fatalf("%s became %s", was, now)
		}
		if now := wholeTold(other); now != otherWas {
			t.Fatalf("%s became %s", otherWas, now)
		}
		for _, path := range [][]int64{{}, {4}, {4, 5}, {4, 5, 8}, {7, 5, 99}, {2, 1}, {-1}, {1, 1, 1, 1, 1, 1, 1, 1, 1, 1, 1}} {
			path = roomyList(path, 5, 99)
			pathWas := wholeTold(path)
			impl.FindObject(k, path)
			if now := wholeTold(path); now != pathWas {
				t.Fatalf("%s became %s", pathWas, now)
			}
		}
	}
}

// What lies behind the end of a list is no part of it: the answers are those of a list that ends there.
func TestKernelAnswersHangOnNoCapacity(t *testing.T) {
	for _, given := range kernelsOfAndNot(t) {
		k := roomyKernel(given)
		if a, b := kernelAnswers(k), kernelAnswers(given); a != b {
			t.Errorf("%v: with memory behind it %s, else %s", given, a, b)
		}
		wantSameKernels(t, "with memory behind it", k, given, true)
		for place := range given.Objects {
			path := impl.PathOf(given, int64(place)).List
			if a, b := impl.FindObject(k, roomyList(path, 1, 2)), impl.FindObject(given, slices.Clip(path)); a != b {
				t.Errorf("%v of %v: with names behind it %v, else %v", path, given, a, b)
			}
		}
	}
}

// listQuestions answer lists, whatever the kernel is, if it has no fault.
func listQuestions(k impl.Kernel) []kernelQuestion {
	list := []kernelQuestion{makesKernel(0), makesKernel(200)}
	for place, o := range k.Objects {
		list = append(list, asksPath(int64(place)))
		if o.Kind == 1 {
			list = append(list, asksKids(int64(place)))
		}
	}
	return list
}

// An answer shares no memory with the kernel, with another answer, or with itself.
func TestKernelAnswersAreNewMemory(t *testing.T) {
	for _, given := range kernelsOf(t) {
		k := roomyKernel(given)
		for _, q := range listQuestions(k) {
			wantApart(t, q.name, q.ask(k), k, q.ask(k))
		}
	}
}

// scrubAnswer turns all memory of an answer of listQuestions.
func scrubAnswer(t *testing.T, answer any) {
	t.Helper()
	switch a := answer.(type) {
	case impl.IntsResult:
		overwrite(a.List)
	case impl.KernelResult:
		if a.Code != impl.OK {
			t.Fatalf("no kernel is made: %v", a)
		}
		scrubKernel(a.Kernel)
	default:
		t.Fatalf("%T has no list", answer)
	}
}

// An answer stays as it is when what was handed in is turned afterwards, and the other way round.
func TestKernelAnswersStay(t *testing.T) {
	for _, given := range kernelsOf(t) {
		for _, q := range listQuestions(given) {
			k := roomyKernel(given)
			was := wholeTold(k)
			scrubAnswer(t, q.ask(k))
			if wholeTold(k) != was {
				t.Fatalf("by what was done with the answer of %s %s became %s", q.name, was, wholeTold(k))
			}
			answer := q.ask(k)
			answerWas := wholeTold(answer)
			scrubKernel(k)
			if wholeTold(answer) != answerWas {
				t.Fatalf("by what was done with the kernel the answer of %s, %s, became %v", q.name, answerWas, answer)
			}
		}
	}
}

// Lists of a kernel that share memory are answered as any others.
func TestKernelListsThatWereShared(t *testing.T) {
	shared := []int64{2, 3, 1, 4, 4, 4}
	k := impl.Kernel{Objects: []impl.Object{{Up: -1, Kind: 1, Label: impl.Label{Levels: shared[:4]}, Quota: 50, Next: 4}}}
	for name := int64(3); name >= 1; name-- {
		k.Objects = append(k.Objects, impl.Object{Name: name, Kind: 2, Label: impl.Label{Levels: shared[1:5]}, Quota: 6, Data: shared})
	}
	was := wholeTold(k)
	wantKernelFault(t, "shared", k, impl.OK)
	wantFound(t, k)
	wantInts(t, "what is in it", impl.KidsOf(k, 0), 3, 2, 1)
	wantInt(t, "by the memory of its label", impl.FindObject(k, shared[:1]), 2)
	wantNoInt(t, "by the memory of its data", impl.FindObject(k, shared[:2]), impl.ErrNone)
	wantSameKernels(t, "shared, and not", k, cloneKernel(k), true)
	made := impl.NewKernel(k.Objects[0].Label, 9)
	wantApart(t, "NewKernel", made, k)
	scrubKernel(made.Kernel)
	if now := wholeTold(k); now != was {
		t.Errorf("%s became %s", was, now)
	}
}

// Whatever comes in, each call is answered: by a code and nothing else, or by what is so.
func TestKernelFunctionsAnswerAlways(t *testing.T) {
	source, codes := rand.New(rand.NewSource(126)), map[int64]int{}
	number := func() int64 { return int64(source.Uint64()) >> source.Intn(64) }
	for range 20000 {
		k := anyKernel(source, 1+source.Intn(12))
		if source.Intn(3) == 0 {
			spoilKernel(&k, source)
		}
		path := []int64{}
		for range source.Intn(6) {
			path = append(path, []int64{number(), 1 + source.Int63n(5), k.Objects[source.Intn(len(k.Objects))].Name}[source.Intn(3)])
		}
		object, code := []int64{number(), source.Int63n(13)}[source.Intn(2)], plainKernelFault(k)
		codes[code]++
		wantKernelFault(t, "any kernel", k, code)
		if code == impl.OK {
			wantFindOf(t, k, path)
			wantPlaceOf(t, k, object)
		} else {
			wantNoInt(t, "an object", impl.FindObject(k, path), code)
			wantNoInts(t, "a path", impl.PathOf(k, object), code)
			wantNoInt(t, "what is free", impl.FreeOf(k, object), code)
			wantNoInts(t, "what is in one", impl.KidsOf(k, object), code)
		}
		levels := []int64{source.Int63n(5), 1, 1 + source.Int63n(5), []int64{number(), 4}[source.Intn(2)], 1}[:max(4, source.Intn(6))-source.Intn(2)]
		wantMadeKernel(t, impl.Label{Levels: levels}, []int64{number(), source.Int63n(210)}[source.Intn(2)])
		wantSameKernels(t, "itself", k, cloneKernel(k), true)
		if t.Failed() {
			return
		}
	}
	for _, code := range []int64{impl.OK, impl.ErrForm, impl.ErrMany, impl.ErrRange, impl.ErrNone, impl.ErrFull, impl.ErrState} {
		if codes[code] < 20 {
			t.Errorf("too few kernels of code %d: %d", code, codes[code])
		}
	}
}

// wantMadeKernel makes a kernel of whatever label and quota, and holds it against what is told plainly of the first object.
func wantMadeKernel(t *testing.T, l impl.Label, quota int64) {
	t.Helper()
	first := impl.Object{Up: -1, Kind: 1, Label: l, Quota: quota, Next: 1}
	got := impl.NewKernel(l, quota)
	if code := plainObjectFault(first); code != impl.OK {
		wantNoKernel(t, fmt.Sprint("of ", l.Levels, " and ", quota), got, code)
	} else if told(got) != told(impl.KernelResult{Kernel: impl.Kernel{Objects: []impl.Object{first}}}) {
		t.Errorf("of %v and %d: %v", l.Levels, quota, got)
	}
}

func TestKernelAnswersHangOnArgumentsAlone(t *testing.T) {
	some := []impl.Kernel{kernel(t, standardKernel), kernel(t, mixedKernel), kernel(t, deepKernel()), {}}
	answers := func() string {
		all := []string{}
		for _, k := range some {
			all = append(all, kernelAnswers(k))
		}
		return strings.Join(all, " ")
	}
	was := answers()
	for n, other := range kernelsOfAndNot(t) {
		kernelAnswers(other)
		if n%8 != 0 {
			continue
		}
		if got := answers(); got != was {
			t.Fatalf("behind calls with %v the answers are %s, and were %s", other, got, was)
		}
	}
}
