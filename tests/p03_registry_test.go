package tests

// Promise 3: a label that was entered is found where it was told, and one that was entered and left again is as it was.

import (
	"fmt"
	"slices"
	"testing"

	"loop.example/g00530/impl"
)

func TestRegistryBounds(t *testing.T) {
	if impl.MaxSlots != 10 {
		t.Error("MaxSlots is", impl.MaxSlots)
	}
}

func TestRegistryFaultOfGoodOnes(t *testing.T) {
	for _, text := range goodRegistries() {
		if code := impl.RegistryFault(registry(t, text)); code != impl.OK {
			t.Errorf("%q: code %d", text, code)
		}
	}
	for count := range int64(100) {
		r := impl.Registry{Slots: []impl.Slot{{}, {Count: count}}}
		if count > 0 {
			r.Slots[1].Label = label(t, "1311")
		}
		if code := impl.RegistryFault(r); code != impl.OK {
			t.Errorf("a count of %d: code %d", count, code)
		}
	}
}

func TestRegistryFaultOfFaultyOnes(t *testing.T) {
	for _, f := range faultyRegistries(t) {
		if code := impl.RegistryFault(f.registry); code != f.code {
			t.Errorf("%s: code %d; want %d", f.name, code, f.code)
		}
	}
}

// Slots are asked one by one: of two faulty ones the one ahead tells the code, whatever the code of the other is.
func TestRegistryFaultTellsTheSlotAhead(t *testing.T) {
	twice := impl.Slot{Count: 1, Label: label(t, "1111")}
	for _, f := range faultySlots(t) {
		for _, g := range faultySlots(t) {
			r := impl.Registry{Slots: []impl.Slot{{}, f.slot, g.slot}}
			if code := impl.RegistryFault(r); code != f.code {
				t.Errorf("%s ahead of %s: code %d; want %d", f.name, g.name, code, f.code)
			}
		}
		ahead := impl.Registry{Slots: []impl.Slot{twice, f.slot, twice}}
		if code := impl.RegistryFault(ahead); code != f.code {
			t.Errorf("%s ahead of a label again: code %d; want %d", f.name, code, f.code)
		}
		behind := impl.Registry{Slots: []impl.Slot{twice, twice, f.slot}}
		if code := impl.RegistryFault(behind); code != impl.ErrState {
			t.Errorf("%s behind a label again: code %d; want %d", f.name, code, impl.ErrState)
		}
	}
}

// A slot that stands twice is asked its own codes first.
func TestRegistryFaultOfAFaultySlotTwice(t *testing.T) {
	ahead := impl.Slot{Count: 1, Label: label(t, "1111")}
	for count, want := range map[int64]int64{-1: impl.ErrRange, 0: impl.ErrForm, 1: impl.ErrState, 99: impl.ErrState, 100: impl.ErrRange} {
		r := impl.Registry{Slots: []impl.Slot{ahead, {Count: count, Label: label(t, "1111")}}}
		if code := impl.RegistryFault(r); code != want {
			t.Errorf("the label again with a count of %d: code %d; want %d", count, code, want)
		}
	}
}

func TestEnterLabelRows(t *testing.T) {
	rows := []struct {
		before, label string
		place         int64
		after         string
	}{
		{"", "1311", 0, "1:1311"},
		{"1:1311", "1311", 0, "2:1311"},
		{"98:1311", "1311", 0, "99:1311"},
		{"2:1311", "1111", 1, "2:1311 1:1111"},
		{"-", "1311", 0, "1:1311"},
		{"- -", "1311", 0, "1:1311 -"},
		{"1:1111 - 1:0000", "1311", 1, "1:1111 1:1311 1:0000"},
		{"1:1111 - - 1:0000 -", "1311", 1, "1:1111 1:1311 - 1:0000 -"},
		{"1:1111 1:0000 -", "1311", 2, "1:1111 1:0000 1:1311"},
		{"1:1111 1:0000", "1311", 2, "1:1111 1:0000 1:1311"},
		// An empty slot ahead is none of the label's, where it has one.
		{"- - 5:1311", "1311", 2, "- - 6:1311"},
		{"- 1:1111 - 98:1311 -", "1311", 3, "- 1:1111 - 99:1311 -"},
		{"99:1111 - 99:0000", "****", 1, "99:1111 1:**** 99:0000"},
		{"1:1111 1:1311 1:*111 1:111* 1:J111 1:0000 1:3333 1:**** 1:JJJJ", "0123", 9, "1:1111 1:1311 1:*111 1:111* 1:J111 1:0000 1:3333 1:**** 1:JJJJ 1:0123"},
		{"1:1111 1:1311 1:*111 1:111* 1:J111 1:0000 1:3333 1:**** 1:JJJJ -", "0123", 9, "1:1111 1:1311 1:*111 1:111* 1:J111 1:0000 1:3333 1:**** 1:JJJJ 1:0123"},
		{"1:1111 1:1311 1:*111 1:111* 1:J111 1:0000 1:3333 1:**** 1:JJJJ 1:0123", "0123", 9, "1:1111 1:1311 1:*111 1:111* 1:J111 1:0000 1:3333 1:**** 1:JJJJ 2:0123"},
		{"1:1111 1:1311 1:*111 1:111* - 1:0000 1:3333 1:**** 1:JJJJ 1:0123", "J112", 4, "1:1111 1:1311 1:*111 1:111* 1:J112 1:0000 1:3333 1:**** 1:JJJJ 1:0123"},
	}
	for _, row := range rows {
		got := impl.EnterLabel(registry(t, row.before), label(t, row.label))
		wantRegistry(t, fmt.Sprintf("enter %s into %q", row.label, row.before), got, row.place, registry(t, row.after))
	}
}

func TestEnterLabelFull(t *testing.T) {
	rows := []struct{ before, label string }{
		{"99:1311", "1311"},
		{"- 99:1311 -", "1311"},
		{"1:1111 99:1311", "1311"},
	}
	for _, row := range rows {
		wantNoRegistry(t, "enter "+row.label+" into "+row.before, impl.EnterLabel(registry(t, row.before), label(t, row.label)), impl.ErrFull)
	}
	for _, count := range []int64{1, 98, 99} {
		full := fullRegistry(t, count)
		wantNoRegistry(t, "enter an eleventh", impl.EnterLabel(full, label(t, "1212")), impl.ErrFull)
		for place, l := range tenLabels(t) {
			got := impl.EnterLabel(full, l)
			if count == 99 {
				wantNoRegistry(t, "enter a hundredth time", got, impl.ErrFull)
				continue
			}
			want := fullRegistry(t, count)
			want.Slots[place].Count++
			wantRegistry(t, "enter again", got, int64(place), want)
		}
	}
}

func TestLeaveLabelRows(t *testing.T) {
	rows := []struct {
		before string
		slot   int64
		count  int64
		after  string
	}{
		{"1:1311", 0, 0, "-"},
		{"2:1311", 0, 1, "1:1311"},
		{"99:1311", 0, 98, "98:1311"},
		{"1:1311 1:1111", 0, 0, "- 1:1111"},
		{"1:1311 1:1111", 1, 0, "1:1311 -"},
		{"1:1311 - 3:1111", 2, 2, "1:1311 - 2:1111"},
		{"1:1311 1:0000 3:1111", 1, 0, "1:1311 - 3:1111"},
		{"- 1:1311 -", 1, 0, "- - -"},
		{"1:1111 1:1311 1:*111 1:111* 1:J111 1:0000 1:3333 1:**** 1:JJJJ 1:0123", 9, 0, "1:1111 1:1311 1:*111 1:111* 1:J111 1:0000 1:3333 1:**** 1:JJJJ -"},
	}
	for _, row := range rows {
		got := impl.LeaveLabel(registry(t, row.before), row.slot)
		wantRegistry(t, fmt.Sprintf("leave %d of %q", row.slot, row.before), got, row.count, registry(t, row.after))
	}
}

func TestLabelAtAndSlotOfAllPlaces(t *testing.T) {
	for _, text := range goodRegistries() {
		r := registry(t, text)
		for place, s := range r.Slots {
			what := fmt.Sprintf("place %d of %q", place, text)
			if s.Count == 0 {
				wantNoLabel(t, what, impl.LabelAt(r, int64(place)), impl.ErrNone)
				continue
			}
			wantLabel(t, what, impl.LabelAt(r, int64(place)), s.Label)
			wantInt(t, what, impl.SlotOf(r, s.Label), int64(place))
		}
		wantNoInt(t, "a label that "+text+" has not", impl.SlotOf(r, label(t, "1212")), impl.ErrNone)
	}
}

func TestSlotOfTellsLabelsApart(t *testing.T) {
	r := registry(t, "- 1:1311 - 1:0000")
	eachLabel(func(l impl.Label) {
		switch {
		case sameLabel(l, label(t, "1311")):
			wantInt(t, "the slot of 1311", impl.SlotOf(r, l), 1)
		case sameLabel(l, label(t, "0000")):
			wantInt(t, "the slot of 0000", impl.SlotOf(r, l), 3)
		default:
			wantNoInt(t, fmt.Sprint("the slot of ", l.Levels), impl.SlotOf(r, l), impl.ErrNone)
		}
	})
}

func TestSameRegistriesIsAllTheSame(t *testing.T) {
	texts := append(goodRegistries(), "1:1311 1:1111", "1:1111 1:1311", "1:1311 2:1111", "1:1311 1:1112", "1:1311 1:1111 -", "- 1:1311 1:1111")
	for i, a := range texts {
		for j, b := range texts {
			if got := impl.SameRegistries(registry(t, a), registry(t, b)); got != (i == j) {
				t.Errorf("%q and %q: %v", a, b, got)
			}
		}
	}
}

func TestSameRegistriesOfFaultyOnes(t *testing.T) {
	faulty := faultyRegistries(t)
	for i, a := range faulty {
		for j, b := range faulty {
			want := i == j || registryTold(a.registry) == registryTold(b.registry)
			if got := impl.SameRegistries(a.registry, b.registry); got != want {
				t.Errorf("%s and %s: %v", a.name, b.name, got)
			}
		}
	}
	wide := impl.Registry{Slots: []impl.Slot{{Label: labelOf(1)}}}
	if impl.SameRegistries(wide, registry(t, "-")) || impl.SameRegistries(registry(t, "-"), wide) {
		t.Error("an empty slot is the same as one with a level")
	}
}

// entering holds against each other a registry, one with a label more, and one that it left again.
func entering(t *testing.T, text string, l impl.Label) {
	t.Helper()
	before := registry(t, text)
	entered := impl.EnterLabel(before, l)
	if entered.Code != impl.OK {
		return
	}
	what := fmt.Sprintf("%v entered into %q", l.Levels, text)
	wantLabel(t, what, impl.LabelAt(entered.Registry, entered.Value), l)
	wantInt(t, what, impl.SlotOf(entered.Registry, l), entered.Value)
	if code := impl.RegistryFault(entered.Registry); code != impl.OK {
		t.Errorf("%s has the fault %d", what, code)
	}
	left := impl.LeaveLabel(entered.Registry, entered.Value)
	want := registry(t, text)
	if int(entered.Value) == len(want.Slots) {
		want.Slots = append(want.Slots, impl.Slot{})
	}
	wantRegistry(t, what+" and left again", left, want.Slots[entered.Value].Count, want)
	if got, was := impl.SlotOf(left.Registry, l), impl.SlotOf(before, l); got != was {
		t.Errorf("%s and left again is at %v, and was at %v", what, got, was)
	}
	for place := range before.Slots {
		was := impl.LabelAt(before, int64(place))
		if got := impl.LabelAt(left.Registry, int64(place)); got.Code != was.Code || !sameLabel(got.Label, was.Label) {
			t.Errorf("%s and left again: at %d is %v, and was %v", what, place, got, was)
		}
		if got := impl.LabelAt(entered.Registry, int64(place)); was.Code == impl.OK && !sameLabel(got.Label, was.Label) {
			t.Errorf("%s: at %d is %v, and was %v", what, place, got, was)
		}
	}
}

func TestLabelThatWasEntered(t *testing.T) {
	for _, text := range goodRegistries() {
		eachLabel(func(l impl.Label) { entering(t, text, l) })
	}
}

// model is a registry told as plainly as can be, to hold long walks against.
type model []impl.Slot

func (m model) place(wanted func(s impl.Slot) bool) int64 {
	return int64(slices.IndexFunc(m, wanted))
}

func (m model) enter(l impl.Label) (model, int64, int64) {
	next := slices.Clone(m)
	if at := m.place(func(s impl.Slot) bool { return s.Count > 0 && sameLabel(s.Label, l) }); at >= 0 {
		if m[at].Count == 99 {
			return nil, 0, impl.ErrFull
		}
		next[at].Count++
		return next, at, impl.OK
	}
	if at := m.place(func(s impl.Slot) bool { return s.Count == 0 }); at >= 0 {
		next[at] = impl.Slot{Count: 1, Label: l}
		return next, at, impl.OK
	}
	if len(m) == 10 {
		return nil, 0, impl.ErrFull
	}
	return append(next, impl.Slot{Count: 1, Label: l}), int64(len(m)), impl.OK
}

func (m model) leave(slot int64) (model, int64, int64) {
	if slot < 0 || slot >= int64(len(m)) {
		return nil, 0, impl.ErrRange
	}
	if m[slot].Count == 0 {
		return nil, 0, impl.ErrNone
	}
	next := slices.Clone(m)
	next[slot].Count--
	if next[slot].Count == 0 {
		next[slot] = impl.Slot{}
	}
	return next, next[slot].Count, impl.OK
}

func heldAgainstModel(t *testing.T, what string, got impl.RegistryResult, next model, value int64, code int64) {
	t.Helper()
	if code != impl.OK {
		wantNoRegistry(t, what, got, code)
		return
	}
	wantRegistry(t, what, got, value, impl.Registry{Slots: next})
}

// walk does all that can be done in so many steps from a registry.
func walk(t *testing.T, r impl.Registry, m model, steps int, labels []impl.Label) {
	if steps == 0 || t.Failed() {
		return
	}
	for _, l := range labels {
		next, value, code := m.enter(l)
		got := impl.EnterLabel(r, l)
		heldAgainstModel(t, fmt.Sprintf("enter %v into %s", l.Levels, registryTold(r)), got, next, value, code)
		if code == impl.OK {
			walk(t, got.Registry, next, steps-1, labels)
		}
	}
	for slot := int64(-1); slot <= int64(len(m)); slot++ {
		next, value, code := m.leave(slot)
		got := impl.LeaveLabel(r, slot)
		heldAgainstModel(t, fmt.Sprintf("leave %d of %s", slot, registryTold(r)), got, next, value, code)
		if code == impl.OK {
			walk(t, got.Registry, next, steps-1, labels)
		}
	}
}

func TestRegistryWalks(t *testing.T) {
	few := []impl.Label{label(t, "1311"), label(t, "1111"), label(t, "*11J")}
	walk(t, impl.Registry{}, nil, 6, few)
	for _, text := range goodRegistries() {
		r := registry(t, text)
		walk(t, r, slices.Clone(r.Slots), 2, append(tenLabels(t), label(t, "1212")))
	}
}

func TestRegistryUpTo99AndBack(t *testing.T) {
	l, r := label(t, "1311"), registry(t, "1:1111 -")
	for count := range int64(99) {
		got := impl.EnterLabel(r, l)
		wantRegistry(t, "enter", got, 1, impl.Registry{Slots: []impl.Slot{{Count: 1, Label: label(t, "1111")}, {Count: count + 1, Label: l}}})
		r = got.Registry
	}
	wantNoRegistry(t, "enter the hundredth time", impl.EnterLabel(r, l), impl.ErrFull)
	for count := int64(98); count >= 0; count-- {
		got := impl.LeaveLabel(r, 1)
		if got.Code != impl.OK || got.Value != count {
			t.Fatalf("left down to %d: %v", count, got)
		}
		r = got.Registry
	}
	if registryTold(r) != registryTold(registry(t, "1:1111 -")) {
		t.Errorf("entered and left 99 times: %s", registryTold(r))
	}
	wantNoRegistry(t, "leave once more", impl.LeaveLabel(r, 1), impl.ErrNone)
}
