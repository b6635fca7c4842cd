package tests

import (
	"fmt"
	"math/rand"
	"slices"
	"strings"
	"testing"

	"loop.example/g00530/impl"
)

// kernel reads objects with semicolons between: of a box its Up, Name, label, Quota and Next, of a text its Up, Name, label,
// Quota and all its Data: "box -1 0 1111 50 3; text 0 2 1311 5 7 8".
func kernel(t *testing.T, text string) impl.Kernel {
	t.Helper()
	list := []impl.Object{}
	for part := range strings.SplitSeq(text, ";") {
		words := strings.Fields(part)
		if len(words) < 5 {
			t.Fatalf("the test's own kernel %q has %q", text, part)
		}
		place := numbers(t, strings.Join(words[1:3], " "))
		rest := numbers(t, strings.Join(words[4:], " "))
		o := impl.Object{Up: place[0], Name: place[1], Label: label(t, words[3]), Quota: rest[0]}
		switch {
		case words[0] == "box" && len(rest) == 2:
			o.Kind, o.Next = 1, rest[1]
		case words[0] == "text":
			o.Kind, o.Data = 2, rest[1:]
		default:
			t.Fatalf("the test's own kernel %q has %q", text, part)
		}
		list = append(list, o)
	}
	return impl.Kernel{Objects: list}
}

func cloneKernel(k impl.Kernel) impl.Kernel {
	list := slices.Clone(k.Objects)
	for place, o := range list {
		list[place].Label.Levels, list[place].Data = slices.Clone(o.Label.Levels), slices.Clone(o.Data)
	}
	return impl.Kernel{Objects: list}
}

func turnedKernel(k impl.Kernel, turn func(k *impl.Kernel)) impl.Kernel {
	k = cloneKernel(k)
	turn(&k)
	return k
}

// deepKernel is as many boxes as may be, each in the one ahead of it and with all the room of it.
func deepKernel() string {
	return "box -1 0 1111 200 2" + strings.Join(textsOf(11, func(n int) string { return fmt.Sprintf("; box %d 1 1111 200 2", n) }), "")
}

// wideKernel is as many texts as may be in one box, their names falling.
func wideKernel() string {
	return "box -1 0 1111 198 12" + strings.Join(textsOf(11, func(n int) string { return fmt.Sprintf("; text 0 %d 1111 18 %d", 11-n, n) }), "")
}

func textsOf(many int, text func(n int) string) []string {
	list := []string{}
	for n := range many {
		list = append(list, text(n))
	}
	return list
}

// mixedKernel is as many objects as may be: boxes in boxes, a box with nothing in it, texts with and without Data, names that were
// used once and are free now, the same name in several boxes, and boxes whose Quota is used up.
const mixedKernel = "box -1 0 1111 200 100; box 0 7 1311 90 6; text 0 3 1111 5 1 2 3; box 1 5 1311 40 100; text 1 1 1311 50; text 3 99 3333 30 65535 0 9; box 3 1 2222 10 1; text 0 99 0000 0; box 0 1 0123 105 3; text 8 1 1111 100; text 8 2 1111 5 1 1 1 1 1; text 3 7 1311 0"

// goodKernels are as texts what a kernel can be.
func goodKernels() []string {
	return []string{
		"box -1 0 1111 50 1",
		"box -1 0 0000 0 1",
		"box -1 0 3333 200 100",
		"box -1 0 1111 50 3; box 0 2 1111 20 2; text 1 1 1111 5 7",
		"box -1 0 1111 50 2; text 0 1 1111 5",
		"box -1 0 1111 50 2; text 0 1 1311 3 0 65535 7",
		"box -1 0 1111 0 2; text 0 1 1111 0",
		"box -1 0 1111 0 2; box 0 1 1111 0 1",
		"box -1 0 1111 50 4; text 0 3 1111 20 1; text 0 1 1111 20; text 0 2 1111 10 2 2",
		"box -1 0 1111 50 9; text 0 8 1111 1 1; text 0 3 1111 0",
		"box -1 0 1111 50 100; box 0 99 1111 10 100; text 1 99 1111 10",
		"box -1 0 1111 50 9; box 0 4 1111 10 9",
		"box -1 0 1111 60 3; box 0 1 1111 30 3; box 0 2 1111 30 3; text 1 1 1111 15 1; text 2 1 1111 15 2; text 2 2 1111 15 3; text 1 2 1111 15 4",
		"box -1 0 3333 60 3; box 0 1 2222 30 2; box 1 1 1111 20 2; box 2 1 0000 10 2; text 3 1 0123 10 1 2 3 4 5 6 7 8 9 10",
		deepKernel(),
		wideKernel(),
		mixedKernel,
	}
}

// standardKernel is one in which each object can be spoilt by itself: nothing is used up, and there is room for one more object.
const standardKernel = "box -1 0 1111 100 9; box 0 4 1311 40 9; text 0 2 1111 5 7 8; box 1 5 1311 20 9; text 1 1 3333 5 1 2 3; text 3 8 2222 3; box 0 7 0123 9 1"

// objectTurn turns one object of a kernel, and tells the code that it has then, whatever stands behind it.
type objectTurn struct {
	name string
	turn func(o *impl.Object)
	code int64
}

// turnsOf are all faults of the object at a place of the standard kernel, in the order of the codes.
func turnsOf(t *testing.T, place int) []objectTurn {
	t.Helper()
	k := kernel(t, standardKernel)
	list := []objectTurn{}
	add := func(code int64, turn func(o *impl.Object), name ...any) {
		list = append(list, objectTurn{fmt.Sprintf("object %d: %s", place, fmt.Sprint(name...)), turn, code})
	}
	for _, kind := range append(farNumbers(), -1, 0, 3, 4, 1<<32+2) {
		add(impl.ErrForm, func(o *impl.Object) { o.Kind = kind }, "kind ", kind)
	}
	addHasNot(k.Objects[place], add)
	for _, f := range faultyLabels() {
		add(f.code, func(o *impl.Object) { o.Label = f.label }, "a label of ", f.name)
	}
	for _, l := range notThings(t) {
		add(impl.ErrForm, func(o *impl.Object) { o.Label = l }, "no thing's label ", l.Levels)
	}
	addRanges(k.Objects[place], add)
	if place == 0 {
		addFirsts(add)
	} else {
		addStandings(k, place, add)
	}
	return list
}

type adder func(code int64, turn func(o *impl.Object), name ...any)

func addHasNot(o impl.Object, add adder) {
	if o.Kind == 1 {
		for _, data := range [][]int64{{0}, {1}, {1, 2, 3}, {-1}, {65536}, make([]int64, 201)} {
			add(impl.ErrForm, func(o *impl.Object) { o.Data = data }, "a box with data: ", len(data), " numbers")
		}
		return
	}
	for _, next := range append(farNumbers(), -1, 1, 2, 100, 101) {
		add(impl.ErrForm, func(o *impl.Object) { o.Next = next }, "a text with a next ", next)
	}
}

func addRanges(o impl.Object, add adder) {
	for _, quota := range append(farNumbers(), -1, 201, 202, 1<<32+5) {
		add(impl.ErrRange, func(o *impl.Object) { o.Quota = quota }, "quota ", quota)
	}
	if o.Kind == 1 {
		for _, next := range append(farNumbers(), -1, 0, 101, 102, 1<<32+9) {
			add(impl.ErrRange, func(o *impl.Object) { o.Next = next }, "next ", next)
		}
		return
	}
	for _, number := range append(farNumbers(), -1, 65536, 65537, 1<<32+7) {
		add(impl.ErrRange, func(o *impl.Object) { o.Data = []int64{number} }, "data ", number)
		add(impl.ErrRange, func(o *impl.Object) { o.Data = []int64{1, 65535, number} }, "data, its last number ", number)
		add(impl.ErrRange, func(o *impl.Object) { o.Data = []int64{number, 65535, 1} }, "data, its first number ", number)
	}
	add(impl.ErrRange, func(o *impl.Object) { o.Data = make([]int64, o.Quota+1) }, "data of one more than the quota")
	add(impl.ErrRange, func(o *impl.Object) { o.Data = make([]int64, 5000) }, "data of many more than the quota")
	add(impl.ErrRange, func(o *impl.Object) { o.Quota, o.Data = 0, []int64{0} }, "data without a quota")
	add(impl.ErrRange, func(o *impl.Object) { o.Quota, o.Data = 200, make([]int64, 201) }, "data of one more than any quota")
}

func addFirsts(add adder) {
	for _, up := range append(farNumbers(), 0, 1, 6, 7, -3) {
		add(impl.ErrNone, func(o *impl.Object) { o.Up = up }, "the first one with the up ", up)
	}
	for _, name := range append(farNumbers(), -1, 1, 8, 9, 99, 100) {
		add(impl.ErrNone, func(o *impl.Object) { o.Name = name }, "the first one with the name ", name)
	}
	add(impl.ErrNone, func(o *impl.Object) { o.Kind, o.Next = 2, 0 }, "the first one as a text")
	add(impl.ErrNone, func(o *impl.Object) { o.Kind, o.Next, o.Quota, o.Data = 2, 0, 50, []int64{1} }, "the first one as a text with data")
}

func addStandings(k impl.Kernel, place int, add adder) {
	for _, up := range append(farNumbers(), -1, 1<<32-1, 12, 13, 100) {
		add(impl.ErrNone, func(o *impl.Object) { o.Up = up }, "up ", up)
	}
	for up := range int64(len(k.Objects) + 1) {
		if up >= int64(place) || k.Objects[up].Kind == 2 {
			add(impl.ErrNone, func(o *impl.Object) { o.Up = up }, "up ", up)
		}
	}
	for _, name := range append(farNumbers(), -1, 0, 9, 10, 99, 100, 1<<32+3) {
		add(impl.ErrState, func(o *impl.Object) { o.Name = name }, "name ", name)
	}
	for other, ahead := range k.Objects[:place] {
		if other > 0 && other != place {
			add(impl.ErrState, func(o *impl.Object) { o.Up, o.Name = ahead.Up, ahead.Name }, "the name and the up of object ", other)
		}
	}
}

type faultyKernel struct {
	name   string
	kernel impl.Kernel
	code   int64
}

// faultyKernels have one fault each.
func faultyKernels(t *testing.T) []faultyKernel {
	t.Helper()
	base := kernel(t, standardKernel)
	list := []faultyKernel{}
	add := func(code int64, k impl.Kernel, name ...any) {
		list = append(list, faultyKernel{fmt.Sprint(name...), k, code})
	}
	for place := range base.Objects {
		for _, f := range turnsOf(t, place) {
			add(f.code, turnedKernel(base, func(k *impl.Kernel) { f.turn(&k.Objects[place]) }), f.name)
		}
	}
	for _, f := range fullTurns() {
		add(impl.ErrFull, turnedKernel(base, f.turn), f.name)
	}
	add(impl.ErrMany, impl.Kernel{}, "no object")
	add(impl.ErrMany, kernel(t, mixedKernel+"; text 0 4 1111 0"), "one object more than MaxObjects")
	add(impl.ErrMany, kernel(t, deepKernel()+"; text 11 1 1111 0"), "a thirteenth in the last one")
	add(impl.ErrMany, impl.Kernel{Objects: make([]impl.Object, 13)}, "thirteen with each fault")
	add(impl.ErrMany, impl.Kernel{Objects: slices.Repeat(base.Objects, 500)}, "very many objects")
	return list
}

type kernelTurn struct {
	name string
	turn func(k *impl.Kernel)
}

// fullTurns take the room from each box of the standard kernel that has something in it: all of it, or one more than is free.
func fullTurns() []kernelTurn {
	list := []kernelTurn{}
	for _, box := range []struct{ place, used int64 }{{0, 54}, {1, 25}, {3, 3}} {
		for _, quota := range []int64{0, box.used - 1} {
			list = append(list, kernelTurn{fmt.Sprintf("box %d with a quota of %d", box.place, quota), func(k *impl.Kernel) { k.Objects[box.place].Quota = quota }})
		}
	}
	return append(list,
		kernelTurn{"a text that takes too much", func(k *impl.Kernel) { k.Objects[5].Quota = 21 }},
		kernelTurn{"a text that takes as much as may be", func(k *impl.Kernel) { k.Objects[4].Quota = 200 }},
		kernelTurn{"a box that takes too much", func(k *impl.Kernel) { k.Objects[6].Quota = 56 }},
		kernelTurn{"a box that takes as much as may be", func(k *impl.Kernel) { k.Objects[6].Quota = 200 }},
		kernelTurn{"all of them take as much as may be", func(k *impl.Kernel) {
			for place := range k.Objects {
				k.Objects[place].Quota = 200
			}
		}})
}

// plainKernelFault tells by the document's words, object by object, which is the first fault.
func plainKernelFault(k impl.Kernel) int64 {
	if len(k.Objects) < 1 || len(k.Objects) > 12 {
		return impl.ErrMany
	}
	free := map[int64]int64{}
	for place, o := range k.Objects {
		if code := plainObjectFault(o); code != impl.OK {
			return code
		}
		if code := plainStanding(k, place); code != impl.OK {
			return code
		}
		free[int64(place)] += o.Quota
		free[o.Up] -= o.Quota
	}
	for place, o := range k.Objects {
		if o.Kind == 1 && free[int64(place)] < 0 {
			return impl.ErrFull
		}
	}
	return impl.OK
}

func plainObjectFault(o impl.Object) int64 {
	outOf := func(low, high int64) func(n int64) bool {
		return func(n int64) bool { return n < low || n > high }
	}
	isBox, isText, levels := o.Kind == 1, o.Kind == 2, o.Label.Levels
	switch {
	case !isBox && !isText, isBox && len(o.Data) > 0, isText && o.Next != 0:
		return impl.ErrForm
	case len(levels) != 4:
		return impl.ErrMany
	case slices.ContainsFunc(levels, outOf(0, 5)):
		return impl.ErrRange
	case slices.ContainsFunc(levels, outOf(1, 4)):
		return impl.ErrForm
	case outOf(0, 200)(o.Quota), isBox && outOf(1, 100)(o.Next), int64(len(o.Data)) > o.Quota, slices.ContainsFunc(o.Data, outOf(0, 65535)):
		return impl.ErrRange
	}
	return impl.OK
}

func plainStanding(k impl.Kernel, place int) int64 {
	o, ahead := k.Objects[place], k.Objects[:place]
	if place == 0 {
		if o.Up == -1 && o.Name == 0 && o.Kind == 1 {
			return impl.OK
		}
		return impl.ErrNone
	}
	if o.Up < 0 || o.Up >= int64(place) || ahead[o.Up].Kind != 1 {
		return impl.ErrNone
	}
	isTaken := slices.ContainsFunc(ahead, func(other impl.Object) bool { return other.Up == o.Up && other.Name == o.Name })
	if o.Name < 1 || o.Name >= ahead[o.Up].Next || isTaken {
		return impl.ErrState
	}
	return impl.OK
}

// plainPaths are the paths of all objects of a kernel without a fault, each told by that of the box that it is in.
func plainPaths(k impl.Kernel) [][]int64 {
	paths := [][]int64{}
	for place, o := range k.Objects {
		if place == 0 {
			paths = append(paths, []int64{})
			continue
		}
		paths = append(paths, append(slices.Clone(paths[o.Up]), o.Name))
	}
	return paths
}

func plainFind(k impl.Kernel, path []int64) impl.IntResult {
	for place, p := range plainPaths(k) {
		if slices.Equal(p, path) {
			return impl.IntResult{Value: int64(place)}
		}
	}
	return impl.IntResult{Code: impl.ErrNone}
}

func plainPathOf(k impl.Kernel, object int64) impl.IntsResult {
	for place, path := range plainPaths(k) {
		if int64(place) == object {
			return impl.IntsResult{List: path}
		}
	}
	return impl.IntsResult{Code: impl.ErrRange}
}

// plainBox is the code of what is asked of a box alone.
func plainBox(k impl.Kernel, object int64) int64 {
	if object < 0 || object >= int64(len(k.Objects)) {
		return impl.ErrRange
	}
	if k.Objects[object].Kind != 1 {
		return impl.ErrForm
	}
	return impl.OK
}

func plainFree(k impl.Kernel, object int64) impl.IntResult {
	if code := plainBox(k, object); code != impl.OK {
		return impl.IntResult{Code: code}
	}
	free := k.Objects[object].Quota
	for _, o := range k.Objects {
		if o.Up == object {
			free -= o.Quota
		}
	}
	return impl.IntResult{Value: free}
}

func plainKids(k impl.Kernel, object int64) impl.IntsResult {
	if code := plainBox(k, object); code != impl.OK {
		return impl.IntsResult{Code: code}
	}
	names := []int64{}
	for _, o := range k.Objects {
		if o.Up == object {
			names = append(names, o.Name)
		}
	}
	return impl.IntsResult{List: names}
}

func sameInts(a, b impl.IntsResult) bool {
	return a.Code == b.Code && slices.Equal(a.List, b.List)
}

func wantInts(t *testing.T, what string, got impl.IntsResult, list ...int64) {
	t.Helper()
	if !sameInts(got, impl.IntsResult{List: list}) {
		t.Errorf("%s: %v; want %v", what, got, list)
	}
}

func wantKernelFault(t *testing.T, what string, k impl.Kernel, code int64) {
	t.Helper()
	if got := impl.KernelFault(k); got != code {
		t.Errorf("%s: code %d; want %d: %v", what, got, code, k)
	}
}

// wantNoKernel also asks that all but the code is zero.
func wantNoKernel(t *testing.T, what string, got impl.KernelResult, code int64) {
	t.Helper()
	if got.Code != code || got.Value != 0 || len(got.Kernel.Objects) != 0 {
		t.Errorf("%s: %v; want code %d and all else zero", what, got, code)
	}
}

// wantFindOf asks and holds the answer against what is told plainly.
func wantFindOf(t *testing.T, k impl.Kernel, path []int64) {
	t.Helper()
	if got, want := impl.FindObject(k, path), plainFind(k, path); got != want {
		t.Errorf("%v in %v: %v; want %v", path, k, got, want)
	}
}

// wantPlaceOf asks all that is asked with a place, and holds the answers against what is told plainly.
func wantPlaceOf(t *testing.T, k impl.Kernel, object int64) {
	t.Helper()
	if got, want := impl.PathOf(k, object), plainPathOf(k, object); !sameInts(got, want) {
		t.Errorf("the path of %d in %v: %v; want %v", object, k, got, want)
	}
	if got, want := impl.FreeOf(k, object), plainFree(k, object); got != want {
		t.Errorf("what is free of %d in %v: %v; want %v", object, k, got, want)
	}
	if got, want := impl.KidsOf(k, object), plainKids(k, object); !sameInts(got, want) {
		t.Errorf("what is in %d in %v: %v; want %v", object, k, got, want)
	}
}

// wantFound is promise 12 itself, for all objects of a kernel without a fault.
func wantFound(t *testing.T, k impl.Kernel) {
	t.Helper()
	for place := range int64(len(k.Objects)) {
		wantPlaceOf(t, k, place)
		path := impl.PathOf(k, place)
		if path.Code != impl.OK {
			t.Errorf("object %d of %v has no path: %v", place, k, path)
		}
		wantInt(t, fmt.Sprintf("the object of the path %v in %v", path.List, k), impl.FindObject(k, path.List), place)
		kids := impl.KidsOf(k, place).List
		if len(slices.Compact(slices.Sorted(slices.Values(kids)))) != len(kids) {
			t.Errorf("in box %d of %v are names twice: %v", place, k, kids)
		}
	}
}

// anyKernel is right: so many objects, each in any box ahead, with any name that is free there and any room that is left.
func anyKernel(source *rand.Rand, many int) impl.Kernel {
	thing := func() impl.Label {
		return labelOf(1+source.Int63n(4), 1+source.Int63n(4), 1+source.Int63n(4), 1+source.Int63n(4))
	}
	k := impl.Kernel{Objects: []impl.Object{{Up: -1, Kind: 1, Label: thing(), Quota: []int64{200, source.Int63n(201)}[source.Intn(2)], Next: 1}}}
	boxes := []int64{0}
	for len(k.Objects) < many {
		up := boxes[source.Intn(len(boxes))]
		in := &k.Objects[up]
		name := []int64{1 + source.Int63n(4), 1 + source.Int63n(99)}[source.Intn(2)]
		if slices.Contains(plainKids(k, up).List, name) {
			continue
		}
		in.Next = min(100, max(in.Next, name+1+source.Int63n(2)*source.Int63n(9)))
		free := plainFree(k, up).Value
		o := impl.Object{Up: up, Name: name, Kind: 1 + source.Int63n(2), Label: thing(), Quota: []int64{free, free / 2, source.Int63n(free + 1)}[source.Intn(3)]}
		if o.Kind == 1 {
			o.Next = []int64{1, 1 + source.Int63n(100)}[source.Intn(2)]
			boxes = append(boxes, int64(len(k.Objects)))
		} else {
			o.Data = dataOf(source, []int64{o.Quota, source.Int63n(o.Quota + 1), 0}[source.Intn(3)])
		}
		k.Objects = append(k.Objects, o)
	}
	return k
}

func dataOf(source *rand.Rand, many int64) []int64 {
	data := []int64{}
	for range many {
		data = append(data, []int64{0, 65535, source.Int63n(65536)}[source.Intn(3)])
	}
	return data
}

// spoilKernel turns one thing of a kernel to what it may be, to what is just beside that, or to whatever comes.
func spoilKernel(k *impl.Kernel, source *rand.Rand) {
	many := int64(len(k.Objects))
	number := func(most int64) int64 {
		return []int64{-1, 0, 1, most, most + 1, source.Int63n(most + 1), int64(source.Uint64()) >> source.Intn(64)}[source.Intn(7)]
	}
	o := &k.Objects[source.Int63n(many)]
	switch source.Intn(10) {
	case 0:
		o.Up = number(many)
	case 1:
		o.Name = []int64{number(99), k.Objects[source.Int63n(many)].Name, k.Objects[source.Int63n(many)].Next}[source.Intn(3)]
	case 2:
		o.Kind = number(3)
	case 3:
		levels := []int64{1, 2, 3, 4}
		levels[source.Intn(4)] = number(5)
		o.Label.Levels = levels
	case 4:
		o.Label.Levels = make([]int64, source.Intn(9))
	case 5:
		o.Quota = number(200)
	case 6:
		o.Next = number(100)
	case 7:
		o.Data = append(o.Data, number(65535))
	case 8:
		o.Kind, o.Next, o.Data = 3-o.Kind, source.Int63n(3), nil
	case 9:
		other := source.Int63n(many)
		*o, k.Objects[other] = k.Objects[other], *o
	}
}
