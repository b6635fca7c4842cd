package tests

// Promise 1, for passes: every function answers at every argument, ends, and changes none; what it answers is new memory; it hangs on
// the arguments alone.

import (
	"fmt"
	"math"
	"math/rand"
	"slices"
	"testing"

	"loop.example/g00530/impl"
)

// passage is all that comes in to a call: a pass, who asks for it, what taints, and what is dropped.
type passage struct {
	Pass     impl.Pass
	Who      impl.Label
	What     impl.Label
	Category int64
	Level    int64
}

// answers calls each function with what there is.
func (p passage) answers() []any {
	return []any{
		impl.PassFault(p.Pass), impl.MayEnter(p.Pass, p.Who), impl.EnterPass(p.Pass, p.Who), impl.TaintLabel(p.Who, p.What),
		impl.DropStar(p.Who, p.Category, p.Level), impl.StarsOf(p.Who), impl.StarsOf(p.What), impl.StarsOf(p.Pass.Label),
	}
}

func (p passage) plainAnswers() []any {
	return []any{
		plainPassFault(p.Pass), plainMayEnter(p.Pass, p.Who), plainEnterPass(p.Pass, p.Who), plainTaintLabel(p.Who, p.What),
		plainDropStar(p.Who, p.Category, p.Level), plainStars(p.Who), plainStars(p.What), plainStars(p.Pass.Label),
	}
}

// turned is a passage each of whose lists is another one.
func (p passage) turned(turn func(levels []int64) []int64) passage {
	for _, l := range []*impl.Label{&p.Pass.Label, &p.Pass.Guard, &p.Who, &p.What} {
		l.Levels = turn(l.Levels)
	}
	return p
}

// roomy has its lists in memory that goes on behind them, where a careless append or store would be seen.
func (p passage) roomy() passage {
	return p.turned(func(levels []int64) []int64 { return roomyList(levels, 1, 0, 5, 78) })
}

// scrub turns all memory of what came in, what lies behind the ends of its lists too.
func (p passage) scrub() {
	p.turned(func(levels []int64) []int64 {
		overwrite(levels)
		return nil
	})
}

// passages are right ones: all calls have an answer without a code, but that some are denied, or own nothing to drop.
func passages(t *testing.T) []passage {
	t.Helper()
	source, list := rand.New(rand.NewSource(143)), []passage{}
	for _, row := range enterRows() {
		list = append(list, passage{pass(t, row.label, row.guard), label(t, row.who), label(t, "0123"), source.Int63n(4), 1 + source.Int63n(4)})
	}
	for range 200 {
		p := anyPass(source)
		list = append(list, passage{p, anyBelow(source, p.Guard), anyWhich(source, 1, 4), source.Int63n(4), 1 + source.Int63n(4)})
	}
	return list
}

// passagesOfAndNot are right ones, and ones with a fault of each kind in each place.
func passagesOfAndNot(t *testing.T) []passage {
	t.Helper()
	base := passage{pass(t, "*113", "J333"), label(t, "1*1*"), label(t, "3210"), 1, 4}
	list := append(passages(t), base, passage{})
	for _, f := range faultyPasses(t) {
		list = append(list, passage{f.pass, base.Who, base.What, base.Category, base.Level})
	}
	for _, f := range faultyLabels() {
		list = append(list, passage{base.Pass, f.label, base.What, base.Category, base.Level}, passage{base.Pass, base.Who, f.label, base.Category, base.Level})
		list = append(list, passage{impl.Pass{Label: f.label, Guard: f.label}, f.label, f.label, base.Category, base.Level})
	}
	for _, l := range append(notThings(t), topLabels(t)...) {
		list = append(list, passage{impl.Pass{Label: l, Guard: l}, l, l, base.Category, base.Level})
	}
	places, levels := placesAndLevels()
	for n, category := range places {
		list = append(list, passage{base.Pass, base.Who, base.What, category, levels[n]})
	}
	return list
}

// choice is a label in one place, and the code by which it is refused there, if it is.
type choice struct {
	name  string
	label impl.Label
	code  int64
}

// choices are good labels, ones that are refused by form alone, and faulty ones.
func choices(t *testing.T, good, wrong []string, code int64) []choice {
	t.Helper()
	list := []choice{}
	for _, text := range good {
		list = append(list, choice{text, label(t, text), impl.OK})
	}
	for _, text := range wrong {
		list = append(list, choice{text, label(t, text), code})
	}
	for _, f := range faultyLabels() {
		list = append(list, choice{f.name, f.label, f.code})
	}
	return list
}

// formLast is a code as it is asked where all faults of labels come ahead of what they may not have.
func formLast(code, last int64) (fault, form int64) {
	if code == last {
		return impl.OK, code
	}
	return code, impl.OK
}

// Each label in each place of EnterPass and MayEnter, with each in the others: Label is told ahead of Guard, both ahead of what they may
// not have, that ahead of who, and that ahead of what is denied.
func TestEnterPassCodesInOrder(t *testing.T) {
	labels := choices(t, []string{"1111", "*113", "****"}, []string{"J111", "111J", "JJJJ"}, impl.ErrForm)
	guards := choices(t, []string{"1111", "J12J"}, []string{"*111", "111*", "****"}, impl.ErrForm)
	whos := choices(t, []string{"1111", "0*01"}, []string{"1112", "J311", "JJJJ"}, impl.ErrDenied)
	for _, l := range labels {
		for _, g := range guards {
			p := impl.Pass{Label: l.label, Guard: g.label}
			labelFault, labelForm := formLast(l.code, impl.ErrForm)
			guardFault, guardForm := formLast(g.code, impl.ErrForm)
			passCode := firstCode(labelFault, guardFault, labelForm, guardForm)
			wantPassFault(t, l.name+" "+g.name, p, passCode)
			for _, w := range whos {
				whoCode := w.code
				if whoCode == impl.ErrDenied && passCode == impl.OK {
					whoCode = plainEnterPass(p, w.label).Code
				}
				code, what := firstCode(passCode, whoCode), l.name+" "+g.name+" by "+w.name
				wantMayEnter(t, what, p, w.label, code == impl.OK)
				if code != impl.OK {
					wantNoLabel(t, what, impl.EnterPass(p, w.label), code)
				} else {
					wantLabel(t, what, impl.EnterPass(p, w.label), plainEnterPass(p, w.label).Label)
				}
			}
		}
	}
}

func TestTaintLabelCodesInOrder(t *testing.T) {
	whats := choices(t, []string{"1111", "3210"}, []string{"*111", "111*", "J111", "111J", "****", "JJJJ", "*11J"}, impl.ErrForm)
	for _, who := range choices(t, []string{"1111", "*1*1", "J11J", "****"}, nil, impl.OK) {
		for _, what := range whats {
			name, code := who.name+" by "+what.name, firstCode(who.code, what.code)
			if code != impl.OK {
				wantNoLabel(t, name, impl.TaintLabel(who.label, what.label), code)
			} else {
				wantLabel(t, name, impl.TaintLabel(who.label, what.label), plainTaintLabel(who.label, what.label).Label)
			}
		}
	}
}

// A fault of who is told whatever is dropped, right or wrong, owned or not.
func TestDropStarAndStarsOfFaults(t *testing.T) {
	places, levels := placesAndLevels()
	for _, f := range faultyLabels() {
		wantStars(t, f.name, impl.StarsOf(f.label), impl.IntsResult{Code: f.code})
		for _, category := range places {
			for _, level := range levels {
				wantNoLabel(t, fmt.Sprint(f.name, category, level), impl.DropStar(f.label, category, level), f.code)
			}
		}
	}
}

// A level that leaves its bounds, or that no label of that place may have, is refused at each category of each place.
func TestPassLevelsOutOfBounds(t *testing.T) {
	base := passage{pass(t, "*113", "J333"), label(t, "1*1*"), label(t, "3210"), 1, 4}
	for category := range 4 {
		for _, level := range append(farNumbers(), -1, 0, 1, 4, 5, 6) {
			for place := range 4 {
				p := base.roomy()
				[]impl.Label{p.Pass.Label, p.Pass.Guard, p.Who, p.What}[place].Levels[category] = level
				if a, b := told(p.answers()), told(p.plainAnswers()); a != b {
					t.Errorf("%v: %s; want %s", p, a, b)
				}
			}
		}
	}
}

func TestPassAnswersArePlain(t *testing.T) {
	for _, p := range passagesOfAndNot(t) {
		if a, b := told(p.answers()), told(p.plainAnswers()); a != b {
			t.Errorf("%v: %s; want %s", p, a, b)
		}
	}
}

// Each list is told as nil, and as an empty one behind which memory lies.
func TestPassNilIsEmpty(t *testing.T) {
	for _, base := range passages(t) {
		for some := 1; some < 1<<4; some++ {
			emptied := func(empty bool) string {
				place := 0
				return told(base.turned(func(levels []int64) []int64 {
					place++
					if some>>(place-1)&1 == 0 {
						return levels
					}
					return listOr(levels, empty)
				}).answers())
			}
			if a, b := emptied(false), emptied(true); a != b {
				t.Errorf("%v: without a list %s, with an empty one %s", base, a, b)
			}
		}
	}
}

func TestPassArgumentsStay(t *testing.T) {
	wantArgumentsStay(t, passagesOfAndNot(t))
}

func TestPassAnswersHangOnNoCapacity(t *testing.T) {
	wantNoCapacityAsked(t, passagesOfAndNot(t))
}

func TestPassAnswersAreNewMemory(t *testing.T) {
	wantNewMemory(t, passages(t))
}

func scrubPassAnswer(answer any) {
	switch a := answer.(type) {
	case impl.LabelResult:
		overwrite(a.Label.Levels)
	case impl.IntsResult:
		overwrite(a.List)
	}
}

func TestPassAnswersStay(t *testing.T) {
	wantAnswersStay(t, passages(t), scrubPassAnswer)
}

// Labels that come in and share memory are answered as any others, and are apart in what is answered.
func TestPassLabelsThatWereShared(t *testing.T) {
	for _, text := range []string{"1111", "3333", "0123", "*111", "****", "J111", "1*1J"} {
		shared := label(t, text)
		p := passage{impl.Pass{Label: shared, Guard: shared}, shared, shared, 0, 2}
		apart := p.turned(slices.Clone)
		was := wholeTold(p)
		answers := p.answers()
		if a, b := told(answers), told(apart.answers()); a != b || a != told(p.plainAnswers()) {
			t.Errorf("shared %s, apart %s, want %v", a, b, p.plainAnswers())
		}
		for n, answer := range answers {
			wantApart(t, fmt.Sprint("answer ", n, " of ", text), answer, p)
			scrubPassAnswer(answer)
		}
		if now := wholeTold(p); now != was {
			t.Errorf("%s became %s", was, now)
		}
	}
}

// Whatever comes in, each call is answered: by a code and nothing else, or by what is so.
func TestPassFunctionsAnswerAlways(t *testing.T) {
	source, codes := rand.New(rand.NewSource(144)), map[int64]int{}
	number := func() int64 { return int64(source.Uint64()) >> source.Intn(64) }
	maybeSpoilt := func(l impl.Label) impl.Label {
		switch source.Intn(6) {
		case 0:
			return spoiltLabel(source, l)
		case 1:
			levels := make([]int64, source.Intn(7))
			for category := range levels {
				levels[category] = []int64{number(), source.Int63n(6)}[source.Intn(2)]
			}
			return labelOf(levels...)
		}
		return l
	}
	for range 60000 {
		good := anyPass(source)
		who := []impl.Label{anyBelow(source, good.Guard), anyWhich(source, 0, 5)}[source.Intn(2)]
		p := passage{
			Pass: impl.Pass{Label: maybeSpoilt(good.Label), Guard: maybeSpoilt(good.Guard)}, Who: maybeSpoilt(who), What: maybeSpoilt(anyWhich(source, 1, 4)),
			Category: []int64{number(), source.Int63n(6) - 1}[source.Intn(2)], Level: []int64{number(), source.Int63n(6)}[source.Intn(2)],
		}
		codes[plainEnterPass(p.Pass, p.Who).Code]++
		if a, b := told(p.answers()), told(p.plainAnswers()); a != b {
			t.Fatalf("%v: %s; want %s", p, a, b)
		}
	}
	for _, code := range []int64{impl.OK, impl.ErrForm, impl.ErrMany, impl.ErrRange, impl.ErrDenied} {
		if codes[code] < 500 {
			t.Errorf("too few of code %d: %v", code, codes)
		}
	}
}

func TestPassFunctionsOfLongLabels(t *testing.T) {
	long, good := impl.Label{Levels: slices.Repeat([]int64{1}, 100000)}, label(t, "****")
	wantPassFault(t, "a long Label", impl.Pass{Label: long, Guard: label(t, "1111")}, impl.ErrMany)
	wantPassFault(t, "a long Guard", impl.Pass{Label: good, Guard: long}, impl.ErrMany)
	wantMayEnter(t, "a long who", pass(t, "1111", "JJJJ"), long, false)
	wantNoLabel(t, "a long who", impl.EnterPass(pass(t, "1111", "JJJJ"), long), impl.ErrMany)
	wantNoLabel(t, "a long who", impl.TaintLabel(long, label(t, "1111")), impl.ErrMany)
	wantNoLabel(t, "a long what", impl.TaintLabel(good, long), impl.ErrMany)
	wantNoLabel(t, "a long who", impl.DropStar(long, 99999, 1), impl.ErrMany)
	wantNoLabel(t, "a far category", impl.DropStar(good, math.MinInt64, math.MaxInt64), impl.ErrRange)
	wantStars(t, "a long label", impl.StarsOf(long), impl.IntsResult{Code: impl.ErrMany})
}

func TestPassAnswersHangOnArgumentsAlone(t *testing.T) {
	wantArgumentsAlone(t, passages(t)[:20], passagesOfAndNot(t))
}
