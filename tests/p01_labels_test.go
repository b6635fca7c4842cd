package tests

// Promise 1, for labels: every function answers at every argument, ends, and changes none; what it answers is new
// memory; it hangs on the arguments alone.

import (
	"slices"
	"testing"

	"loop.example/g00530/impl"
)

var pairFunctions = map[string]func(a, b impl.Label) impl.LabelResult{
	"JoinLabels": impl.JoinLabels,
	"MeetLabels": impl.MeetLabels,
}

var pairAsks = map[string]func(a, b impl.Label) bool{
	"IsBelow":    impl.IsBelow,
	"CanObserve": impl.CanObserve,
	"CanModify":  impl.CanModify,
}

func TestLabelFaultsOfOneLabel(t *testing.T) {
	for _, f := range faultyLabels() {
		wantNoLabel(t, "HighLabel "+f.name, impl.HighLabel(f.label), f.code)
		if got := impl.LabelText(f.label); got != (impl.TextResult{Code: f.code}) {
			t.Errorf("LabelText %s: %v; want code %d and no text", f.name, got, f.code)
		}
		if impl.OwnsAny(f.label) {
			t.Errorf("OwnsAny %s", f.name)
		}
	}
}

func TestLabelFaultsOfPairs(t *testing.T) {
	good := label(t, "*1*1")
	for name, function := range pairFunctions {
		for _, f := range faultyLabels() {
			wantNoLabel(t, name+" with a "+f.name, function(f.label, good), f.code)
			wantNoLabel(t, name+" with b "+f.name, function(good, f.label), f.code)
			for _, g := range faultyLabels() {
				wantNoLabel(t, name+" of "+f.name+" and "+g.name, function(f.label, g.label), f.code)
			}
		}
	}
}

func TestLabelAsksAreFalseBesideAFault(t *testing.T) {
	for name, ask := range pairAsks {
		for _, f := range faultyLabels() {
			for _, text := range []string{"****", "0000", "1111", "3333", "JJJJ"} {
				good := label(t, text)
				if ask(f.label, good) || ask(good, f.label) {
					t.Errorf("%s of %s and %s is true", name, f.name, text)
				}
			}
			for _, g := range faultyLabels() {
				if ask(f.label, g.label) {
					t.Errorf("%s of %s and %s is true", name, f.name, g.name)
				}
			}
		}
	}
}

func TestLabelNilIsEmpty(t *testing.T) {
	none, empty := impl.Label{}, impl.Label{Levels: []int64{}}
	if impl.LabelFault(none) != impl.LabelFault(empty) || impl.LabelText(none) != impl.LabelText(empty) {
		t.Error("a label of nil is not that of an empty list")
	}
}

// roomy is a label behind whose levels more memory lies, where a careless append would be seen.
func roomy(levels ...int64) (impl.Label, []int64) {
	memory := append(slices.Clone(levels), 77, 78, 79)
	return impl.Label{Levels: memory[:len(levels)]}, memory
}

func callAllLabelFunctions(a, b impl.Label) {
	impl.LabelFault(a)
	impl.HighLabel(a)
	impl.OwnsAny(a)
	impl.LabelText(a)
	for _, function := range pairFunctions {
		function(a, b)
	}
	for _, ask := range pairAsks {
		ask(a, b)
	}
}

func TestLabelArgumentsStay(t *testing.T) {
	lists := [][]int64{{2, 0, 4, 5}, {5, 4, 0, 2}, {0, 0, 0, 0}, {1, 2, 3, 4}, {5, 5, 5, 5}, {}, {1, 2, 3}, {0, 1, 2, 3, 4}, {0, -1, 9, 1}}
	for _, x := range lists {
		for _, y := range lists {
			a, aMemory := roomy(x...)
			b, bMemory := roomy(y...)
			callAllLabelFunctions(a, b)
			if !slices.Equal(aMemory, append(slices.Clone(x), 77, 78, 79)) || !slices.Equal(bMemory, append(slices.Clone(y), 77, 78, 79)) {
				t.Errorf("%v and %v became %v and %v", x, y, aMemory, bMemory)
			}
		}
	}
}

// overwrite turns all of a list's memory, what lies behind its end too.
func overwrite(list []int64) {
	whole := list[:cap(list)]
	for i := range whole {
		whole[i] = 99
	}
}

func TestLabelAnswersAreNewMemory(t *testing.T) {
	eachLabel(func(l impl.Label) {
		for name, function := range pairFunctions {
			for _, b := range []impl.Label{l, labelOf(0, 0, 0, 0), labelOf(5, 5, 5, 5), labelOf(2, 2, 2, 2)} {
				aBefore, bBefore := slices.Clone(l.Levels), slices.Clone(b.Levels)
				overwrite(function(l, b).Label.Levels)
				overwrite(function(b, l).Label.Levels)
				if !slices.Equal(l.Levels, aBefore) || !slices.Equal(b.Levels, bBefore) {
					t.Fatalf("an answer of %s shares memory with %v or %v", name, aBefore, bBefore)
				}
			}
		}
		before := slices.Clone(l.Levels)
		overwrite(impl.HighLabel(l).Label.Levels)
		if !slices.Equal(l.Levels, before) {
			t.Fatalf("the answer of HighLabel shares memory with %v", before)
		}
	})
}

func TestLabelAnswersAreApart(t *testing.T) {
	a, b := label(t, "1*3J"), label(t, "3111")
	calls := map[string]func() impl.LabelResult{
		"JoinLabels": func() impl.LabelResult { return impl.JoinLabels(a, b) },
		"MeetLabels": func() impl.LabelResult { return impl.MeetLabels(a, b) },
		"HighLabel":  func() impl.LabelResult { return impl.HighLabel(a) },
		"ParseLabel": func() impl.LabelResult { return impl.ParseLabel("1*3J") },
	}
	for name, call := range calls {
		first, second := call(), call()
		want := labelOf(slices.Clone(second.Label.Levels)...)
		overwrite(first.Label.Levels)
		wantLabel(t, name+", an answer ahead overwritten", second, want)
		wantLabel(t, name+", called again", call(), want)
	}
}

func TestLabelAnswersHangOnArgumentsAlone(t *testing.T) {
	a, b := label(t, "1*3J"), label(t, "3111")
	text, joined, met, below := impl.LabelText(a), impl.JoinLabels(a, b), impl.MeetLabels(a, b), impl.IsBelow(a, b)
	eachLabel(func(l impl.Label) {
		callAllLabelFunctions(l, a)
		callAllLabelFunctions(b, l)
		impl.ParseLabel(impl.LabelText(l).Text)
		if impl.LabelText(a) != text || impl.IsBelow(a, b) != below {
			t.Fatalf("an answer is another one behind calls with %v", l.Levels)
		}
		wantLabel(t, "join again", impl.JoinLabels(a, b), joined.Label)
		wantLabel(t, "meet again", impl.MeetLabels(a, b), met.Label)
	})
}
