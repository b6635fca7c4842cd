package tests

// Promise 1, for what a kernel is asked for: every function answers at every argument, ends, and changes none; what it answers is new
// memory; it hangs on the arguments alone.

import (
	"fmt"
	"math"
	"math/rand"
	"slices"
	"testing"

	"loop.example/g00530/impl"
)

// hearing is all that comes in to a call: a kernel, who asks it, and what for.
type hearing struct {
	Kernel impl.Kernel
	Who    impl.Label
	Asks   []impl.Ask
}

// answers calls each function with what there is.
func (h hearing) answers() []any {
	list := []any{impl.AskAll(h.Kernel, h.Who, h.Asks)}
	for _, a := range h.Asks {
		list = append(list, impl.AskFault(a), impl.AskKernel(h.Kernel, h.Who, a), impl.MayPass(h.Kernel, h.Who, a.Path))
	}
	return list
}

func (h hearing) clone() hearing {
	list := slices.Clone(h.Asks)
	for place, a := range list {
		list[place] = cloneAsk(a)
	}
	return hearing{cloneKernel(h.Kernel), labelOf(slices.Clone(h.Who.Levels)...), list}
}

// roomy has its lists in memory that goes on behind them, where a careless append or store would be seen.
func (h hearing) roomy() hearing {
	h = h.clone()
	h.Kernel, h.Who.Levels = roomyKernel(h.Kernel), roomyList(h.Who.Levels, 1, 78)
	for place, a := range h.Asks {
		h.Asks[place].Path, h.Asks[place].Data, h.Asks[place].Label.Levels = roomyList(a.Path, 1, 77), roomyList(a.Data, 6, 77777), roomyList(a.Label.Levels, 2, 78)
	}
	h.Asks = roomyList(h.Asks, impl.Ask{Kind: 4, Path: []int64{2}}, impl.Ask{Kind: 77})
	return h
}

// scrub turns all memory of what came in, what lies behind the ends of its lists too.
func (h hearing) scrub() {
	scrubKernel(h.Kernel)
	overwrite(h.Who.Levels)
	whole := h.Asks[:cap(h.Asks)]
	for place, a := range whole {
		overwrite(a.Path)
		overwrite(a.Data)
		overwrite(a.Label.Levels)
		whole[place] = impl.Ask{Kind: 97, At: 98}
	}
}

// hearings are right ones: each kind of ask, served and refused, of kernels of each kind.
func hearings(t *testing.T) []hearing {
	t.Helper()
	all := asks(t, "make - text 1111 5; make - box 2322 1; make 4 text 1311 0; read 2 0 9; read 2 1 1; write 2 1 5 6; write 2 2 9; write 2 0; drop 2; drop 4; drop 4.5; drop 9; room 2 6; room 4 30; room 4 200; list -; list 4; list 7; list 2; drop -")
	list := []hearing{}
	for _, who := range []string{"****", "1111", "1311", "3333", "0000"} {
		list = append(list, hearing{kernel(t, standardKernel), label(t, who), all})
	}
	source := rand.New(rand.NewSource(135))
	for _, k := range kernelsOf(t) {
		h := hearing{Kernel: k, Who: []impl.Label{anyWho(source), label(t, "****")}[source.Intn(2)]}
		for range 12 {
			h.Asks = append(h.Asks, anyAsk(source, k))
		}
		list = append(list, h.clone())
	}
	return list
}

// hearingsOfAndNot are right ones, and ones with a fault of each kind in each place.
func hearingsOfAndNot(t *testing.T) []hearing {
	t.Helper()
	list := hearings(t)
	base := list[0]
	for n, f := range faultyKernels(t) {
		if n%9 == 0 && len(f.kernel.Objects) < 40 {
			list = append(list, hearing{f.kernel, base.Who, base.Asks})
		}
	}
	for _, f := range faultyLabels() {
		list = append(list, hearing{base.Kernel, f.label, base.Asks})
	}
	h := hearing{Kernel: base.Kernel, Who: base.Who}
	for n, f := range faultyAsks(t) {
		if n%5 == 0 && len(f.ask.Path) < 100 && len(f.ask.Data) < 100 {
			h.Asks = append(h.Asks, f.ask)
		}
		if len(h.Asks) == 20 {
			list, h.Asks = append(list, h), nil
		}
	}
	return append(list, h, hearing{base.Kernel, base.Who, slices.Repeat(base.Asks[:7], 3)}, hearing{}, hearing{Kernel: base.Kernel}, hearing{Who: base.Who, Asks: make([]impl.Ask, 2)})
}

// Of several faults the first one is told by all.
func TestAskFaultsComeFirstOfSeveral(t *testing.T) {
	source, codes := rand.New(rand.NewSource(136)), map[int64]int{}
	for range 20000 {
		k, who := anyKernel(source, 1+source.Intn(12)), anyWho(source)
		a := anyAsk(source, k)
		for range source.Intn(3) {
			spoilAsk(&a, source)
		}
		if source.Intn(8) == 0 {
			spoilKernel(&k, source)
		}
		if source.Intn(8) == 0 {
			who.Levels = make([]int64, source.Intn(6))
			if len(who.Levels) > 0 {
				who.Levels[0] = source.Int63n(9) - 1
			}
		}
		codes[wantAskOf(t, k, who, a).Code]++
		wantAllOf(t, k, who, []impl.Ask{a, {}, a})
		wantMayPass(t, "any", k, who, a.Path, plainMayPass(k, who, a.Path))
		if t.Failed() {
			return
		}
	}
	for _, code := range []int64{impl.OK, impl.ErrForm, impl.ErrMany, impl.ErrRange, impl.ErrNone, impl.ErrDenied, impl.ErrFull} {
		if codes[code] < 100 {
			t.Errorf("too few of code %d: %v", code, codes)
		}
	}
}

// emptied are the lists of what comes in, each of which can be told as nil, and as an empty one behind which memory lies.
func emptied() map[string]func(h *hearing, empty bool) {
	ofEach := func(turn func(a *impl.Ask, empty bool)) func(h *hearing, empty bool) {
		return func(h *hearing, empty bool) {
			for place := range h.Asks {
				turn(&h.Asks[place], empty)
			}
		}
	}
	return map[string]func(h *hearing, empty bool){
		"objects": func(h *hearing, empty bool) { h.Kernel.Objects = listOr(h.Kernel.Objects, empty) },
		"data of objects": func(h *hearing, empty bool) {
			for place := range h.Kernel.Objects {
				h.Kernel.Objects[place].Data = listOr(h.Kernel.Objects[place].Data, empty)
			}
		},
		"who":    func(h *hearing, empty bool) { h.Who.Levels = listOr(h.Who.Levels, empty) },
		"asks":   func(h *hearing, empty bool) { h.Asks = listOr(h.Asks, empty) },
		"paths":  ofEach(func(a *impl.Ask, empty bool) { a.Path = listOr(a.Path, empty) }),
		"labels": ofEach(func(a *impl.Ask, empty bool) { a.Label.Levels = listOr(a.Label.Levels, empty) }),
		"data":   ofEach(func(a *impl.Ask, empty bool) { a.Data = listOr(a.Data, empty) }),
	}
}

func TestAskNilIsEmpty(t *testing.T) {
	for _, base := range hearings(t) {
		for name, turn := range emptied() {
			none, empty := base.clone(), base.clone()
			turn(&none, false)
			turn(&empty, true)
			if a, b := told(none.answers()), told(empty.answers()); a != b {
				t.Errorf("%s: without a list %s, with an empty one %s", name, a, b)
			}
		}
	}
	k, who := kernel(t, standardKernel), label(t, "1111")
	for _, data := range [][]int64{nil, {}, {1, 2}} {
		wantAskFault(t, "nothing that it has not", impl.Ask{Kind: 6, Path: data[:0], Label: impl.Label{Levels: data[:0]}, Data: data[:0]}, impl.OK)
		wantReply(t, "a path of nothing", impl.AskKernel(k, who, impl.Ask{Kind: 6, Path: data[:0], Data: data[:0]}), impl.AskResult{List: []int64{4, 2, 7}, Kernel: k})
		wantMayPass(t, "a path of nothing", k, who, data[:0], true)
	}
}

func TestAskArgumentsStay(t *testing.T) {
	wantArgumentsStay(t, hearingsOfAndNot(t))
}

func TestAskAnswersHangOnNoCapacity(t *testing.T) {
	wantNoCapacityAsked(t, hearingsOfAndNot(t))
}

func TestAskAnswersAreNewMemory(t *testing.T) {
	wantNewMemory(t, hearings(t))
}

// scrubReply turns all memory of an answer.
func scrubReply(answer any) {
	if a, ok := answer.(impl.AskResult); ok {
		overwrite(a.List)
		scrubKernel(a.Kernel)
	}
}

func TestAskAnswersStay(t *testing.T) {
	wantAnswersStay(t, hearings(t), scrubReply)
}

// What is asked of a kernel that was answered does not turn another one that was answered from it.
func TestAskAnswersBranch(t *testing.T) {
	who := label(t, "1111")
	first := impl.AskAll(impl.NewKernel(who, 50).Kernel, who, asks(t, "make - text 1111 5; make - box 1111 9; make 2 text 1111 4; write 1 0 1 2"))
	was := told(first)
	for text, after := range map[string]string{
		"write 1 2 9":        "box -1 0 1111 50 3; text 0 1 1111 5 1 2 9; box 0 2 1111 9 2; text 2 1 1111 4",
		"write 1 2 8 7":      "box -1 0 1111 50 3; text 0 1 1111 5 1 2 8 7; box 0 2 1111 9 2; text 2 1 1111 4",
		"write 1 0 3":        "box -1 0 1111 50 3; text 0 1 1111 5 3 2; box 0 2 1111 9 2; text 2 1 1111 4",
		"make - text 1111 1": "box -1 0 1111 50 4; text 0 1 1111 5 1 2; box 0 2 1111 9 2; text 2 1 1111 4; text 0 3 1111 1",
		"make 2 box 1111 5":  "box -1 0 1111 50 3; text 0 1 1111 5 1 2; box 0 2 1111 9 3; text 2 1 1111 4; box 2 2 1111 5 1",
		"drop 1":             "box -1 0 1111 50 3; box 0 2 1111 9 2; text 1 1 1111 4",
		"drop 2":             "box -1 0 1111 50 3; text 0 1 1111 5 1 2",
		"room 2 4":           "box -1 0 1111 50 3; text 0 1 1111 5 1 2; box 0 2 1111 4 2; text 2 1 1111 4",
	} {
		got := impl.AskKernel(first.Kernel, who, ask(t, text))
		if got.Code != impl.OK || !sameKernel(got.Kernel, kernel(t, after)) {
			t.Errorf("%s: %v", text, got)
		}
		scrubReply(got)
		if told(first) != was {
			t.Fatalf("by %s %s became %v", text, was, first)
		}
	}
}

// Lists that come in and share memory are answered as any others, and are apart in what is answered.
func TestAskListsThatWereShared(t *testing.T) {
	shared := []int64{3, 2, 1, 4, 4, 4}
	k := impl.Kernel{Objects: []impl.Object{{Up: -1, Kind: 1, Label: impl.Label{Levels: shared[:4]}, Quota: 50, Next: 4}}}
	for name := int64(3); name >= 1; name-- {
		k.Objects = append(k.Objects, impl.Object{Name: name, Kind: 2, Label: impl.Label{Levels: shared[:4]}, Quota: 8, Data: shared})
	}
	h := hearing{Kernel: k, Who: impl.Label{Levels: shared[:4]}, Asks: []impl.Ask{
		{Kind: 1, What: 2, Label: impl.Label{Levels: shared[:4]}, Quota: 1}, {Kind: 3, Path: shared[:1], At: 2, Data: shared}, {Kind: 3, Path: shared[:1], Data: shared[1:3]}, {Kind: 3, Path: shared[1:2], At: 6, Data: shared[2:4]},
		{Kind: 2, Path: shared[:1], N: 9}, {Kind: 4, Path: shared[1:2]}, {Kind: 5, Path: shared[2:3], N: 7}, {Kind: 6},
	}}
	was, apart := wholeTold(h), h.clone()
	if a, b := told(h.answers()), told(apart.answers()); a != b {
		t.Errorf("shared %s, apart %s", a, b)
	}
	for n, answer := range h.answers() {
		wantApart(t, fmt.Sprint("answer ", n), answer, h)
		scrubReply(answer)
	}
	for _, a := range h.Asks {
		wantAskOf(t, h.Kernel, h.Who, a)
	}
	if now := wholeTold(h); now != was {
		t.Errorf("%s became %s", was, now)
	}
}

// Whatever comes in, each call is answered: by a code and nothing else, or by what is so.
func TestAskFunctionsAnswerAlways(t *testing.T) {
	source := rand.New(rand.NewSource(137))
	number := func() int64 { return int64(source.Uint64()) >> source.Intn(64) }
	few := func(most int) []int64 {
		list := make([]int64, source.Intn(most))
		for n := range list {
			list[n] = []int64{number(), source.Int63n(6)}[source.Intn(2)]
		}
		return list
	}
	for range 20000 {
		k := anyKernel(source, 1+source.Intn(12))
		if source.Intn(4) == 0 {
			spoilKernel(&k, source)
		}
		who := []impl.Label{anyWho(source), {Levels: few(6)}}[source.Intn(8)/7]
		a := impl.Ask{Kind: []int64{number(), source.Int63n(8)}[source.Intn(2)], Path: few(9), What: number(), Label: impl.Label{Levels: few(6)}, Quota: number(), At: number(), N: number(), Data: few(30)}
		list := []impl.Ask{a, anyAsk(source, impl.NewKernel(labelOf(1, 1, 1, 1), 5).Kernel), {Kind: a.Kind, Path: a.Path}, {Kind: a.Kind, Path: a.Path, At: a.At, Data: a.Data}}
		for _, one := range list {
			wantAskFault(t, "any ask", one, plainAskFault(one))
			wantAskOf(t, k, who, one)
		}
		wantAllOf(t, k, who, slices.Repeat(list, source.Intn(7)))
		wantMayPass(t, "any way", k, who, a.Path, plainMayPass(k, who, a.Path))
		if t.Failed() {
			return
		}
	}
	long := slices.Repeat([]int64{1}, 100000)
	k, owner := kernel(t, deepKernel()), label(t, "****")
	wantNoReply(t, "a long path", impl.AskKernel(k, owner, impl.Ask{Kind: 6, Path: long}), impl.ErrMany)
	wantNoReply(t, "long data", impl.AskKernel(k, owner, impl.Ask{Kind: 3, Data: long}), impl.ErrMany)
	wantNoReply(t, "a long label", impl.AskKernel(k, owner, impl.Ask{Kind: 1, What: 1, Label: impl.Label{Levels: long}}), impl.ErrMany)
	wantNoReply(t, "a long who", impl.AskKernel(k, impl.Label{Levels: long}, impl.Ask{Kind: 6}), impl.ErrMany)
	wantMayPass(t, "a long path", k, owner, long, false)
	wantMayPass(t, "far names", k, owner, []int64{math.MinInt64, math.MaxInt64}, false)
}

func TestAskAnswersHangOnArgumentsAlone(t *testing.T) {
	wantArgumentsAlone(t, hearings(t)[:4], hearingsOfAndNot(t))
}
