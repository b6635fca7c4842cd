package tests

// Promise 1, for the registry: every function answers at every argument, ends, and changes none; what it answers is new
// memory; it hangs on the arguments alone.

import (
	"fmt"
	"math"
	"strings"
	"testing"

	"loop.example/g00530/impl"
)

// noPlaces are numbers that are no place of a registry with so many slots.
func noPlaces(slots int) []int64 {
	n := int64(slots)
	return []int64{n, n + 1, -1, -2, 10, 11, -n - 1, 1 << 32, -1 << 32, math.MinInt64, math.MinInt64 + 1, math.MaxInt64, math.MaxInt64 - 1}
}

func TestRegistryFaultsComeFirst(t *testing.T) {
	labels := []faultyLabel{{"a label that is in it", label(t, "1111"), 0}, {"a label that is not in it", label(t, "1212"), 0}}
	labels = append(labels, faultyLabels()...)
	for _, f := range faultyRegistries(t) {
		for _, l := range labels {
			what := f.name + " with " + l.name
			wantNoRegistry(t, "EnterLabel: "+what, impl.EnterLabel(f.registry, l.label), f.code)
			wantNoInt(t, "SlotOf: "+what, impl.SlotOf(f.registry, l.label), f.code)
		}
		for _, slot := range append(noPlaces(len(f.registry.Slots)), 0, 1, 4, 9) {
			what := fmt.Sprintf("%s, slot %d", f.name, slot)
			wantNoRegistry(t, "LeaveLabel: "+what, impl.LeaveLabel(f.registry, slot), f.code)
			wantNoLabel(t, "LabelAt: "+what, impl.LabelAt(f.registry, slot), f.code)
		}
	}
}

// The label's fault is told ahead of what a good one would be told: that there is no room, or none.
func TestRegistryLabelFaults(t *testing.T) {
	for _, text := range goodRegistries() {
		for _, f := range faultyLabels() {
			what := fmt.Sprintf("%s and %q", f.name, text)
			wantNoRegistry(t, "EnterLabel: "+what, impl.EnterLabel(registry(t, text), f.label), f.code)
			wantNoInt(t, "SlotOf: "+what, impl.SlotOf(registry(t, text), f.label), f.code)
		}
	}
}

func TestRegistrySlotsThatAreNoPlace(t *testing.T) {
	for _, text := range goodRegistries() {
		r := registry(t, text)
		for _, slot := range noPlaces(len(r.Slots)) {
			if slot >= 0 && slot < int64(len(r.Slots)) {
				continue
			}
			what := fmt.Sprintf("slot %d of %q", slot, text)
			wantNoRegistry(t, "LeaveLabel: "+what, impl.LeaveLabel(r, slot), impl.ErrRange)
			wantNoLabel(t, "LabelAt: "+what, impl.LabelAt(r, slot), impl.ErrRange)
		}
	}
}

func TestRegistrySlotsThatAreEmpty(t *testing.T) {
	for _, text := range goodRegistries() {
		r := registry(t, text)
		for place, s := range r.Slots {
			if s.Count > 0 {
				continue
			}
			what := fmt.Sprintf("slot %d of %q", place, text)
			wantNoRegistry(t, "LeaveLabel: "+what, impl.LeaveLabel(r, int64(place)), impl.ErrNone)
			wantNoLabel(t, "LabelAt: "+what, impl.LabelAt(r, int64(place)), impl.ErrNone)
		}
	}
}

func TestRegistryNilIsEmpty(t *testing.T) {
	l := label(t, "1311")
	none, empty := impl.Registry{}, impl.Registry{Slots: []impl.Slot{}}
	nils := impl.Registry{Slots: []impl.Slot{{Count: 1, Label: l}, {}}}
	empties := impl.Registry{Slots: []impl.Slot{{Count: 1, Label: l}, {Label: labelOf([]int64{}...)}}}
	for _, pair := range [][2]impl.Registry{{none, empty}, {nils, empties}} {
		a, b := pair[0], pair[1]
		if !impl.SameRegistries(a, b) || !impl.SameRegistries(b, a) || impl.RegistryFault(a) != impl.OK || impl.RegistryFault(b) != impl.OK {
			t.Errorf("%s and %s are not the same, or have a fault", registryTold(a), registryTold(b))
		}
		entered := impl.EnterLabel(a, label(t, "1111"))
		wantRegistry(t, "enter", impl.EnterLabel(b, label(t, "1111")), entered.Value, entered.Registry)
		wantNoLabel(t, "the place 1", impl.LabelAt(b, 1), impl.LabelAt(a, 1).Code)
	}
}

// roomyRegistry has its slots, and each slot its levels, in memory that goes on behind them, where a careless append would be seen.
func roomyRegistry(r impl.Registry) (impl.Registry, func() string) {
	memory := make([]impl.Slot, 0, len(r.Slots)+2)
	levels := [][]int64{}
	for _, s := range r.Slots {
		l, whole := roomy(s.Label.Levels...)
		memory = append(memory, impl.Slot{Count: s.Count, Label: l})
		levels = append(levels, whole)
	}
	memory = append(memory, impl.Slot{Count: 55}, impl.Slot{Count: 56})
	told := func() string { return fmt.Sprint(registryTold(impl.Registry{Slots: memory}), levels) }
	return impl.Registry{Slots: memory[:len(r.Slots)]}, told
}

func callAllRegistryFunctions(a, b impl.Registry, l impl.Label) {
	impl.RegistryFault(a)
	impl.SameRegistries(a, b)
	impl.EnterLabel(a, l)
	impl.SlotOf(a, l)
	for slot := int64(-1); slot <= int64(len(a.Slots)); slot++ {
		impl.LeaveLabel(a, slot)
		impl.LabelAt(a, slot)
	}
}

func manyRegistries(t *testing.T) []impl.Registry {
	t.Helper()
	list := []impl.Registry{}
	for _, text := range goodRegistries() {
		list = append(list, registry(t, text))
	}
	for _, f := range faultyRegistries(t) {
		list = append(list, f.registry)
	}
	return list
}

func TestRegistryArgumentsStay(t *testing.T) {
	lists := [][]int64{{2, 4, 2, 2}, {2, 2, 2, 2}, {3, 2, 3, 2}, {0, 0, 0, 0}, {}, {1, 2, 3}, {0, 1, 2, 3, 4}, {0, -1, 9, 1}}
	for _, r := range manyRegistries(t) {
		for _, levels := range lists {
			a, aTold := roomyRegistry(r)
			b, bTold := roomyRegistry(r)
			l, lMemory := roomy(levels...)
			aWas, bWas, lWas := aTold(), bTold(), fmt.Sprint(lMemory)
			callAllRegistryFunctions(a, b, l)
			if aTold() != aWas || bTold() != bWas || fmt.Sprint(lMemory) != lWas {
				t.Errorf("%s, or %s, or %s became %s, %s, %v", aWas, bWas, lWas, aTold(), bTold(), lMemory)
			}
		}
	}
}

// overwriteRegistry turns all of a registry's memory, what lies behind the ends too.
func overwriteRegistry(r impl.Registry) {
	for _, s := range r.Slots {
		overwrite(s.Label.Levels)
	}
	whole := r.Slots[:cap(r.Slots)]
	for place := range whole {
		whole[place] = impl.Slot{Count: 77, Label: labelOf(7)}
	}
}

func TestRegistryAnswersAreNewMemory(t *testing.T) {
	for _, text := range goodRegistries() {
		for _, told := range []string{"1111", "1311", "1212"} {
			r, l := registry(t, text), label(t, told)
			// A label that lies in the registry itself, too.
			labels := []impl.Label{l}
			for _, s := range r.Slots {
				if s.Count > 0 {
					labels = append(labels, s.Label)
				}
			}
			for _, entered := range labels {
				overwriteRegistry(impl.EnterLabel(r, entered).Registry)
			}
			for slot := range int64(len(r.Slots)) {
				overwriteRegistry(impl.LeaveLabel(r, slot).Registry)
				overwrite(impl.LabelAt(r, slot).Label.Levels)
			}
			if registryTold(r) != registryTold(registry(t, text)) || !sameLabel(l, label(t, told)) {
				t.Fatalf("an answer shares memory with %q or %s: %s, %v", text, told, registryTold(r), l.Levels)
			}
		}
	}
}

// Each label of an answer is overwritten by itself: the others must not be seen to turn.
func apart(t *testing.T, what string, r impl.Registry) {
	t.Helper()
	for place := range r.Slots {
		others := func() string {
			told := []string{}
			for other, s := range r.Slots {
				if other != place {
					told = append(told, fmt.Sprint(s.Label.Levels))
				}
			}
			return strings.Join(told, " ")
		}
		was := others()
		overwrite(r.Slots[place].Label.Levels)
		if others() != was {
			t.Errorf("%s: the label at %d shares memory with another one", what, place)
		}
	}
}

func TestRegistryListsOfOneAnswerAreApart(t *testing.T) {
	for _, text := range goodRegistries() {
		apart(t, "enter into "+text, impl.EnterLabel(registry(t, text), label(t, "1212")).Registry)
		apart(t, "enter again into "+text, impl.EnterLabel(registry(t, text), label(t, "1311")).Registry)
		for slot := range int64(10) {
			apart(t, "leave of "+text, impl.LeaveLabel(registry(t, text), slot).Registry)
		}
	}
}

func TestRegistryAnswersAreApart(t *testing.T) {
	r, l := registry(t, "2:1111 - 1:1311"), label(t, "1212")
	calls := map[string]func() impl.RegistryResult{
		"EnterLabel": func() impl.RegistryResult { return impl.EnterLabel(r, l) },
		"LeaveLabel": func() impl.RegistryResult { return impl.LeaveLabel(r, 2) },
	}
	for name, call := range calls {
		first, second := call(), call()
		was := registryTold(second.Registry)
		overwriteRegistry(first.Registry)
		if registryTold(second.Registry) != was || registryTold(call().Registry) != was {
			t.Errorf("%s: an answer hangs on another one", name)
		}
	}
	first, second := impl.LabelAt(r, 2), impl.LabelAt(r, 2)
	overwrite(first.Label.Levels)
	wantLabel(t, "LabelAt, an answer ahead overwritten", second, label(t, "1311"))
}

func TestRegistryAnswersHangOnArgumentsAlone(t *testing.T) {
	r, l := registry(t, "2:1111 - 1:1311 - 3:0000 4:**** 5:JJJJ"), label(t, "1212")
	told := func() string {
		all := fmt.Sprint(impl.EnterLabel(r, l), impl.SlotOf(r, l), impl.RegistryFault(r), impl.SameRegistries(r, r))
		for slot := range int64(8) {
			all += fmt.Sprint(impl.LeaveLabel(r, slot), impl.LabelAt(r, slot))
		}
		return all
	}
	was := told()
	for _, other := range manyRegistries(t) {
		callAllRegistryFunctions(other, r, l)
		callAllRegistryFunctions(r, other, label(t, "1311"))
		if got := told(); got != was {
			t.Fatalf("behind calls with %s the answers are %s, and were %s", registryTold(other), got, was)
		}
	}
}
