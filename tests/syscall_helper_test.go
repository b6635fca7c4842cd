package tests

import (
	"fmt"
	"math/rand"
	"slices"
	"strings"
	"testing"

	"loop.example/g00530/impl"
)

// ask reads an ask: its word, its path with points between (- for none), and what its kind has: "make 4.5 box 1311 20" has a label and a
// quota, "read 2 0 9" At and N, "write 2 0 7 8" At and all its Data, "room 2 9" N; "drop 2" and "list -" have nothing more.
func ask(t *testing.T, text string) impl.Ask {
	t.Helper()
	words := strings.Fields(text)
	if len(words) < 2 {
		t.Fatalf("the test's own ask %q has too few words", text)
	}
	a, rest := impl.Ask{Path: pathOf(t, words[1])}, words[2:]
	if words[0] == "make" && len(rest) == 3 {
		a.Kind, a.What, a.Label, a.Quota = 1, map[string]int64{"box": 1, "text": 2}[rest[0]], label(t, rest[1]), numbers(t, rest[2])[0]
		return a
	}
	more := numbers(t, strings.Join(rest, " "))
	switch {
	case words[0] == "read" && len(more) == 2:
		a.Kind, a.At, a.N = 2, more[0], more[1]
	case words[0] == "write" && len(more) > 0:
		a.Kind, a.At, a.Data = 3, more[0], more[1:]
	case words[0] == "drop" && len(more) == 0:
		a.Kind = 4
	case words[0] == "room" && len(more) == 1:
		a.Kind, a.N = 5, more[0]
	case words[0] == "list" && len(more) == 0:
		a.Kind = 6
	default:
		t.Fatalf("the test's own ask %q is none", text)
	}
	return a
}

// asks reads asks with semicolons between.
func asks(t *testing.T, text string) []impl.Ask {
	t.Helper()
	list := []impl.Ask{}
	for part := range strings.SplitSeq(text, ";") {
		list = append(list, ask(t, part))
	}
	return list
}

// pathOf reads names with points between, and - for none.
func pathOf(t *testing.T, text string) []int64 {
	t.Helper()
	if text == "-" {
		return []int64{}
	}
	return numbers(t, strings.ReplaceAll(text, ".", " "))
}

func cloneAsk(a impl.Ask) impl.Ask {
	a.Path, a.Label.Levels, a.Data = slices.Clone(a.Path), slices.Clone(a.Label.Levels), slices.Clone(a.Data)
	return a
}

func turnedAsk(a impl.Ask, turn func(a *impl.Ask)) impl.Ask {
	a = cloneAsk(a)
	turn(&a)
	return a
}

// goodAsks are as texts what an ask can be, the edges of each kind among them.
func goodAsks() []string {
	return []string{
		"make - text 1111 5", "make - box 1111 5", "make 4 box 1311 0", "make 4.5 text 3333 200", "make 99.1.99.1.99.1 box 0123 199", "make 2 text 0000 1",
		"read 2 0 0", "read 2 0 9", "read 4.1 200 200", "read 4.1 1 1", "read - 0 1", "read 1.2.3.4.5.6 1 0",
		"write 2 0", "write 2 0 7", "write 2 2 0 65535", "write 4.1 200 1", "write - 0 1 2 3", "write 4.5.8 0 1 2 3 4 5 6 7 8 9 10 11 12 13 14 15 16 17 18 19 20",
		"drop 2", "drop -", "drop 4", "drop 1.2.3.4.5.6",
		"room 2 0", "room 2 200", "room - 5", "room 4 41", "room 99 1",
		"list -", "list 4", "list 2", "list 4.5", "list 99.99.99.99.99.99",
	}
}

// askTurn turns an ask of each kind that it is told for, and tells the code that it has then.
type askTurn struct {
	name string
	turn func(a *impl.Ask)
	code int64
}

// tooMuch are all things that an ask of the kind has not.
func tooMuch(kind int64) []askTurn {
	list := []askTurn{}
	add := func(name string, kinds []int64, turn func(a *impl.Ask)) {
		if !slices.Contains(kinds, kind) {
			list = append(list, askTurn{name, turn, impl.ErrForm})
		}
	}
	for _, number := range append(farNumbers(), -1, 1, 2, 3, 200, 201) {
		add(fmt.Sprint("what ", number), []int64{1}, func(a *impl.Ask) { a.What = number })
		add(fmt.Sprint("quota ", number), []int64{1}, func(a *impl.Ask) { a.Quota = number })
		add(fmt.Sprint("at ", number), []int64{2, 3}, func(a *impl.Ask) { a.At = number })
		add(fmt.Sprint("n ", number), []int64{2, 5}, func(a *impl.Ask) { a.N = number })
		add(fmt.Sprint("data ", number), []int64{3}, func(a *impl.Ask) { a.Data = []int64{number} })
	}
	for _, levels := range [][]int64{{1, 1, 1, 1}, {0, 0, 0, 0}, {4, 4, 4, 4}, {5, 5, 5, 5}, {0}, {1}, {1, 1, 1}, {1, 1, 1, 1, 1}, {6, -1, 1, 1}} {
		add(fmt.Sprint("a label of ", levels), []int64{1}, func(a *impl.Ask) { a.Label = labelOf(levels...) })
	}
	add("data of a 0", []int64{3}, func(a *impl.Ask) { a.Data = []int64{0} })
	add("data of 20", []int64{3}, func(a *impl.Ask) { a.Data = make([]int64, 20) })
	add("data of 21", []int64{3}, func(a *impl.Ask) { a.Data = make([]int64, 21) })
	return list
}

// tooMany and outOfBounds are what an ask of the kind can have wrong else; wrongLabels are of a make alone.
func tooMany(kind int64) []askTurn {
	list := []askTurn{}
	add := func(name string, turn func(a *impl.Ask)) {
		list = append(list, askTurn{name, turn, impl.ErrMany})
	}
	for _, many := range []int{7, 8, 12, 100, 5000} {
		add(fmt.Sprintf("a path of %d", many), func(a *impl.Ask) { a.Path = slices.Repeat([]int64{1}, many) })
	}
	add("a path of 7 that are out of bounds", func(a *impl.Ask) { a.Path = slices.Repeat([]int64{0}, 7) })
	if kind == 3 {
		for _, many := range []int{21, 22, 200, 5000} {
			add(fmt.Sprintf("data of %d", many), func(a *impl.Ask) { a.Data = make([]int64, many) })
		}
		add("data of 21 that are out of bounds", func(a *impl.Ask) { a.Data = slices.Repeat([]int64{-1}, 21) })
	}
	return list
}

func outOfBounds(kind int64) []askTurn {
	list := []askTurn{}
	add := func(name string, number int64, turn func(a *impl.Ask)) {
		list = append(list, askTurn{fmt.Sprint(name, " ", number), turn, impl.ErrRange})
	}
	for _, number := range append(farNumbers(), -1, 0, 100, 101, 1<<32+5, 1<<8+1) {
		add("a path of", number, func(a *impl.Ask) { a.Path = []int64{number} })
		add("a path that begins with", number, func(a *impl.Ask) { a.Path = []int64{number, 1, 99} })
		add("a path that has in its midst", number, func(a *impl.Ask) { a.Path = []int64{1, 99, number, 1, 99, 1} })
		add("a path that ends with", number, func(a *impl.Ask) { a.Path = []int64{1, 99, 1, 99, 1, number} })
	}
	for _, number := range append(farNumbers(), -1, 201, 202, 1<<32+5, 1<<8+1) {
		switch kind {
		case 1:
			add("a quota of", number, func(a *impl.Ask) { a.Quota = number })
			add("a what of", number, func(a *impl.Ask) { a.What = number })
		case 2, 3:
			add("an at of", number, func(a *impl.Ask) { a.At = number })
		}
		if kind == 2 || kind == 5 {
			add("an n of", number, func(a *impl.Ask) { a.N = number })
		}
	}
	if kind == 1 {
		add("a what of", 0, func(a *impl.Ask) { a.What = 0 })
		add("a what of", 3, func(a *impl.Ask) { a.What = 3 })
	}
	if kind == 3 {
		for _, number := range append(farNumbers(), -1, 65536, 65537, 1<<32+7) {
			add("data of", number, func(a *impl.Ask) { a.Data = []int64{number} })
			add("data that begin with", number, func(a *impl.Ask) { a.Data = []int64{number, 0, 65535} })
			add("data that end with", number, func(a *impl.Ask) { a.Data = append(make([]int64, 19), number) })
		}
	}
	return list
}

func wrongLabels(t *testing.T, kind int64) []askTurn {
	t.Helper()
	list := []askTurn{}
	if kind != 1 {
		return list
	}
	for _, f := range faultyLabels() {
		list = append(list, askTurn{"a label of " + f.name, func(a *impl.Ask) { a.Label = f.label }, f.code})
	}
	for _, l := range notThings(t) {
		list = append(list, askTurn{fmt.Sprint("no thing's label ", l.Levels), func(a *impl.Ask) { a.Label = l }, impl.ErrForm})
	}
	return list
}

type faultyAsk struct {
	name string
	ask  impl.Ask
	code int64
}

// faultyAsks have one fault each, beside which all is right.
func faultyAsks(t *testing.T) []faultyAsk {
	t.Helper()
	list := []faultyAsk{}
	for _, text := range []string{"make - text 1111 5", "make 4 box 1311 1", "read 2 0 1", "write 2 1 9", "drop 2", "room 2 3", "list 4"} {
		base := ask(t, text)
		for _, turns := range [][]askTurn{tooMuch(base.Kind), tooMany(base.Kind), outOfBounds(base.Kind), wrongLabels(t, base.Kind)} {
			for _, f := range turns {
				list = append(list, faultyAsk{text + " with " + f.name, turnedAsk(base, f.turn), f.code})
			}
		}
		for _, kind := range append(farNumbers(), -1, 0, 7, 8, 1<<32+2, 1<<8+6) {
			list = append(list, faultyAsk{fmt.Sprint(text, " as the kind ", kind), turnedAsk(base, func(a *impl.Ask) { a.Kind = kind }), impl.ErrForm})
		}
	}
	for _, kind := range append(farNumbers(), -1, 0, 7, 8) {
		list = append(list, faultyAsk{fmt.Sprint("nothing but the kind ", kind), impl.Ask{Kind: kind}, impl.ErrForm})
	}
	return list
}

// plainAskFault takes away from an ask all that its kind has, and looks at what is left; then at the numbers of what it has.
func plainAskFault(a impl.Ask) int64 {
	rest, bounds := cloneAsk(a), [][3]int64{}
	rest.Kind, rest.Path = 0, nil
	switch a.Kind {
	case 1:
		rest.What, rest.Label, rest.Quota = 0, impl.Label{}, 0
		bounds = append(bounds, [3]int64{a.What, 1, 2}, [3]int64{a.Quota, 0, 200})
	case 2:
		rest.At, rest.N = 0, 0
		bounds = append(bounds, [3]int64{a.At, 0, 200}, [3]int64{a.N, 0, 200})
	case 3:
		rest.At, rest.Data = 0, nil
		bounds = append(bounds, [3]int64{a.At, 0, 200})
	case 5:
		rest.N = 0
		bounds = append(bounds, [3]int64{a.N, 0, 200})
	case 4, 6:
	default:
		return impl.ErrForm
	}
	for _, name := range a.Path {
		bounds = append(bounds, [3]int64{name, 1, 99})
	}
	for _, number := range a.Data {
		bounds = append(bounds, [3]int64{number, 0, 65535})
	}
	isOut := func(b [3]int64) bool { return b[0] < b[1] || b[0] > b[2] }
	switch {
	case told(rest) != told(impl.Ask{}):
		return impl.ErrForm
	case len(a.Path) > 6 || len(a.Data) > 20:
		return impl.ErrMany
	case slices.ContainsFunc(bounds, isOut):
		return impl.ErrRange
	case a.Kind == 1:
		return plainThingFault(a.Label)
	}
	return impl.OK
}

func plainLabelFault(l impl.Label) int64 {
	if len(l.Levels) != 4 {
		return impl.ErrMany
	}
	if slices.Min(l.Levels) < 0 || slices.Max(l.Levels) > 5 {
		return impl.ErrRange
	}
	return impl.OK
}

func plainThingFault(l impl.Label) int64 {
	code := plainLabelFault(l)
	if code == impl.OK && (slices.Contains(l.Levels, 0) || slices.Contains(l.Levels, 5)) {
		return impl.ErrForm
	}
	return code
}

// plainPass finds the object of each piece of a path from its front on. Neither the kernel nor who has a fault.
func plainPass(k impl.Kernel, who impl.Label, path []int64) (int64, bool) {
	for ahead := range path {
		box := plainFind(k, path[:ahead])
		if box.Code != impl.OK || permTold(who, k.Objects[box.Value].Label) == 0 {
			return 0, false
		}
	}
	found := plainFind(k, path)
	return found.Value, found.Code == impl.OK
}

func plainMayPass(k impl.Kernel, who impl.Label, path []int64) bool {
	if plainKernelFault(k) != impl.OK || plainLabelFault(who) != impl.OK {
		return false
	}
	_, passes := plainPass(k, who, path)
	return passes
}

// plainAsk tells as plainly as can be what is answered, whatever comes in.
func plainAsk(k impl.Kernel, who impl.Label, a impl.Ask) impl.AskResult {
	for _, code := range []int64{plainKernelFault(k), plainLabelFault(who), plainAskFault(a)} {
		if code != impl.OK {
			return impl.AskResult{Code: code}
		}
	}
	place, passes := plainPass(k, who, a.Path)
	if !passes {
		return impl.AskResult{Code: impl.ErrNone}
	}
	said := impl.AskResult{Kernel: cloneKernel(k)}
	code := int64(impl.ErrForm)
	switch isBox := k.Objects[place].Kind == 1; {
	case a.Kind == 1 && isBox:
		code = plainMake(&said, who, place, a)
	case a.Kind == 2 && !isBox:
		code = plainRead(&said, who, place, a)
	case a.Kind == 3 && !isBox:
		code = plainWrite(&said, who, place, a)
	case a.Kind == 4 && place > 0:
		code = plainDrop(&said, who, a.Path)
	case a.Kind == 5 && place > 0:
		code = plainRoom(&said, who, place, a.N)
	case a.Kind == 6 && isBox:
		code = plainList(&said, who, place)
	}
	if code != impl.OK {
		return impl.AskResult{Code: code}
	}
	return said
}

func plainMake(said *impl.AskResult, who impl.Label, place int64, a impl.Ask) int64 {
	objects := said.Kernel.Objects
	box := objects[place]
	// Who may modify a thing of its own label is below it, so who is above a category's level or beside it is not.
	isBelow := !slices.ContainsFunc([]int{0, 1, 2, 3}, func(category int) bool { return who.Levels[category] > a.Label.Levels[category] })
	if permTold(who, box.Label) != 7 || !isBelow {
		return impl.ErrDenied
	}
	if plainFree(said.Kernel, place).Value < a.Quota || box.Next == 100 || len(objects) == 12 {
		return impl.ErrFull
	}
	made := impl.Object{Up: place, Name: box.Next, Kind: a.What, Label: labelOf(slices.Clone(a.Label.Levels)...), Quota: a.Quota}
	if a.What == 1 {
		made.Next = 1
	}
	objects[place].Next++
	said.Kernel.Objects, said.Value = append(objects, made), box.Next
	return impl.OK
}

func plainRead(said *impl.AskResult, who impl.Label, place int64, a impl.Ask) int64 {
	text := said.Kernel.Objects[place]
	if permTold(who, text.Label) == 0 {
		return impl.ErrDenied
	}
	for n, number := range text.Data {
		if int64(n) >= a.At && int64(n) < a.At+a.N {
			said.List = append(said.List, number)
		}
	}
	return impl.OK
}

func plainWrite(said *impl.AskResult, who impl.Label, place int64, a impl.Ask) int64 {
	text := &said.Kernel.Objects[place]
	if permTold(who, text.Label) != 7 {
		return impl.ErrDenied
	}
	if a.At > int64(len(text.Data)) || a.At+int64(len(a.Data)) > text.Quota {
		return impl.ErrFull
	}
	for n, number := range a.Data {
		if at := a.At + int64(n); at < int64(len(text.Data)) {
			text.Data[at] = number
		} else {
			text.Data = append(text.Data, number)
		}
	}
	said.Value = int64(len(text.Data))
	return impl.OK
}

func isAtOrIn(path, other []int64) bool {
	return len(path) >= len(other) && slices.Equal(path[:len(other)], other)
}

// plainDrop knows objects by their paths alone: the Up of each one that stays is the place of the one whose path is its own less the
// last name.
func plainDrop(said *impl.AskResult, who impl.Label, path []int64) int64 {
	k := said.Kernel
	box := plainFind(k, path[:len(path)-1]).Value
	if permTold(who, k.Objects[box].Label) != 7 {
		return impl.ErrDenied
	}
	left := impl.Kernel{}
	places := map[string]int64{}
	for place, p := range plainPaths(k) {
		if isAtOrIn(p, path) {
			said.Value++
			continue
		}
		o := k.Objects[place]
		if place > 0 {
			o.Up = places[fmt.Sprint(p[:len(p)-1])]
		}
		places[fmt.Sprint(p)] = int64(len(left.Objects))
		left.Objects = append(left.Objects, o)
	}
	said.Kernel = left
	return impl.OK
}

// plainRoom tries it, and looks whether the kernel is without a fault then.
func plainRoom(said *impl.AskResult, who impl.Label, place, n int64) int64 {
	o := &said.Kernel.Objects[place]
	if permTold(who, said.Kernel.Objects[o.Up].Label) != 7 || permTold(who, o.Label) != 7 {
		return impl.ErrDenied
	}
	o.Quota = n
	if plainKernelFault(said.Kernel) != impl.OK {
		return impl.ErrFull
	}
	return impl.OK
}

func plainList(said *impl.AskResult, who impl.Label, place int64) int64 {
	if permTold(who, said.Kernel.Objects[place].Label) == 0 {
		return impl.ErrDenied
	}
	said.List = plainKids(said.Kernel, place).List
	return impl.OK
}

func plainAll(k impl.Kernel, who impl.Label, list []impl.Ask) impl.AskResult {
	for _, code := range []int64{plainKernelFault(k), plainLabelFault(who)} {
		if code != impl.OK {
			return impl.AskResult{Code: code}
		}
	}
	if len(list) > 20 {
		return impl.AskResult{Code: impl.ErrMany}
	}
	said := impl.AskResult{Kernel: cloneKernel(k)}
	for _, a := range list {
		one := plainAsk(said.Kernel, who, a)
		said.List = append(said.List, one.Code)
		if one.Code == impl.OK {
			said.Kernel = one.Kernel
		}
	}
	return said
}

func sameObject(a, b impl.Object) bool {
	return a.Up == b.Up && a.Name == b.Name && a.Kind == b.Kind && sameLabel(a.Label, b.Label) && a.Quota == b.Quota && a.Next == b.Next && slices.Equal(a.Data, b.Data)
}

func sameKernel(a, b impl.Kernel) bool {
	return slices.EqualFunc(a.Objects, b.Objects, sameObject)
}

func sameReply(a, b impl.AskResult) bool {
	return a.Code == b.Code && a.Value == b.Value && slices.Equal(a.List, b.List) && sameKernel(a.Kernel, b.Kernel)
}

func wantReply(t *testing.T, what string, got, want impl.AskResult) {
	t.Helper()
	if got.Code != want.Code || got.Value != want.Value || !slices.Equal(got.List, want.List) {
		t.Errorf("%s: code %d, value %d, list %v; want code %d, value %d, list %v", what, got.Code, got.Value, got.List, want.Code, want.Value, want.List)
	}
	if !sameKernel(got.Kernel, want.Kernel) {
		t.Errorf("%s: the kernel is %v; want %v", what, got.Kernel, want.Kernel)
	}
}

// wantNoReply also asks that all but the code is zero.
func wantNoReply(t *testing.T, what string, got impl.AskResult, code int64) {
	t.Helper()
	wantReply(t, what, got, impl.AskResult{Code: code})
}

func wantAskFault(t *testing.T, what string, a impl.Ask, code int64) {
	t.Helper()
	if got := impl.AskFault(a); got != code {
		t.Errorf("%s: code %d; want %d: %v", what, got, code, a)
	}
}

func wantMayPass(t *testing.T, what string, k impl.Kernel, who impl.Label, path []int64, want bool) {
	t.Helper()
	if got := impl.MayPass(k, who, path); got != want {
		t.Errorf("%s: %v passes %v: %v; want %v: %v", what, who.Levels, path, got, want, k)
	}
}

// wantAskOf asks, holds the answer against what is told plainly, and asks promise 13 of it.
func wantAskOf(t *testing.T, k impl.Kernel, who impl.Label, a impl.Ask) impl.AskResult {
	t.Helper()
	got := impl.AskKernel(k, who, a)
	if want := plainAsk(k, who, a); !sameReply(got, want) {
		wantReply(t, fmt.Sprintf("%v by %v of %v", a, who.Levels, k), got, want)
	}
	if got.Code == impl.OK {
		wantServed(t, k, a, got)
	}
	return got
}

func wantAllOf(t *testing.T, k impl.Kernel, who impl.Label, list []impl.Ask) impl.AskResult {
	t.Helper()
	got := impl.AskAll(k, who, list)
	if want := plainAll(k, who, list); !sameReply(got, want) {
		wantReply(t, fmt.Sprintf("%v by %v of %v", list, who.Levels, k), got, want)
	}
	if got.Code == impl.OK {
		wantNothingWrong(t, fmt.Sprintf("%v by %v", list, who.Levels), k, got.Kernel)
	}
	return got
}

// wantNothingWrong asks what is so behind whatever was asked: no fault, no box with less room than is used, and no label or kind of what stays
// another one.
func wantNothingWrong(t *testing.T, what string, was, now impl.Kernel) {
	t.Helper()
	wantKernelFault(t, what, now, impl.OK)
	for place, path := range plainPaths(now) {
		o := now.Objects[place]
		if o.Kind == 1 && plainFree(now, int64(place)).Value < 0 {
			t.Errorf("%s: box %v has less room than is used: %v", what, path, now)
		}
		before := plainFind(was, path)
		if before.Code == impl.OK && (!sameLabel(o.Label, was.Objects[before.Value].Label) || o.Kind != was.Objects[before.Value].Kind) {
			t.Errorf("%s: %v became another one: %v was %v", what, path, o, was.Objects[before.Value])
		}
	}
}

// wantServed is promise 13 itself, of an ask that was served.
func wantServed(t *testing.T, was impl.Kernel, a impl.Ask, got impl.AskResult) {
	t.Helper()
	what, now := fmt.Sprintf("%v of %v", a, was), got.Kernel
	wantNothingWrong(t, what, was, now)
	switch a.Kind {
	case 1:
		wantMadeObject(t, what, was, a, got)
	case 3:
		at := impl.FindObject(now, a.Path).Value
		data, before := now.Objects[at].Data, was.Objects[impl.FindObject(was, a.Path).Value].Data
		end := min(a.At+int64(len(a.Data)), int64(len(data)))
		if !slices.Equal(data[:a.At], before[:a.At]) || !slices.Equal(data[a.At:end], a.Data) || !slices.Equal(data[end:], before[min(end, int64(len(before))):]) {
			t.Errorf("%s: %v became %v", what, before, data)
		}
		wantOthersStay(t, what, was, now, at)
	case 4:
		wantDroppedObjects(t, what, was, a.Path, got)
	case 5:
		wantOthersStay(t, what, was, now, impl.FindObject(now, a.Path).Value)
	default:
		wantOthersStay(t, what, was, now, -1)
	}
}

// wantOthersStay asks that as many objects are there, and all but one of them as they were.
func wantOthersStay(t *testing.T, what string, was, now impl.Kernel, turned int64) {
	t.Helper()
	if len(was.Objects) != len(now.Objects) {
		t.Errorf("%s: of %d objects are %d left", what, len(was.Objects), len(now.Objects))
		return
	}
	for place, o := range now.Objects {
		if int64(place) != turned && !sameObject(o, was.Objects[place]) {
			t.Errorf("%s: object %d was %v, and is %v", what, place, was.Objects[place], o)
		}
	}
}

// wantMadeObject asks that what was made is there, last and empty, and that nothing else turned but the next name of its box.
func wantMadeObject(t *testing.T, what string, was impl.Kernel, a impl.Ask, got impl.AskResult) {
	t.Helper()
	path, last := append(slices.Clone(a.Path), got.Value), int64(len(was.Objects))
	wantNoInt(t, what, impl.FindObject(was, path), impl.ErrNone)
	wantInt(t, what, impl.FindObject(got.Kernel, path), last)
	if int64(len(got.Kernel.Objects)) != last+1 {
		t.Errorf("%s: %d objects became %d", what, last, len(got.Kernel.Objects))
		return
	}
	made := got.Kernel.Objects[last]
	if made.Kind != a.What || !sameLabel(made.Label, a.Label) || made.Quota != a.Quota || len(made.Data) != 0 {
		t.Errorf("%s: %v was made", what, made)
	}
	if a.What == 1 {
		wantInts(t, what, impl.KidsOf(got.Kernel, last))
		wantInt(t, what, impl.FreeOf(got.Kernel, last), a.Quota)
	}
	box := impl.FindObject(was, a.Path).Value
	wantOthersStay(t, what, turnedKernel(was, func(k *impl.Kernel) { k.Objects[box].Next++ }), impl.Kernel{Objects: got.Kernel.Objects[:last]}, -1)
}

// wantDroppedObjects asks that what was dropped is not found, nor anything that was in it, and that all else is in the same box as before, in
// the same order.
func wantDroppedObjects(t *testing.T, what string, was impl.Kernel, path []int64, got impl.AskResult) {
	t.Helper()
	left := 0
	for place, p := range plainPaths(was) {
		found := impl.FindObject(got.Kernel, p)
		if isAtOrIn(p, path) {
			wantNoInt(t, what, found, impl.ErrNone)
			continue
		}
		wantInt(t, what, found, int64(left))
		o, before := got.Kernel.Objects[found.Value], was.Objects[place]
		o.Up = before.Up
		if !sameObject(o, before) {
			t.Errorf("%s: %v was %v, and is %v", what, p, before, o)
		}
		left++
	}
	if left != len(got.Kernel.Objects) || int64(len(was.Objects)-left) != got.Value {
		t.Errorf("%s: of %d objects %d are to stay: %d do, and %d are told", what, len(was.Objects), left, len(got.Kernel.Objects), got.Value)
	}
}

// anyWho owns nothing, some categories, or all of them.
func anyWho(source *rand.Rand) impl.Label {
	levels := make([]int64, 4)
	stars := source.Intn(5)
	for category := range levels {
		levels[category] = 1 + source.Int63n(4)
		if source.Intn(4) < stars {
			levels[category] = 0
		}
	}
	if source.Intn(20) == 0 {
		levels[source.Intn(4)] = 5
	}
	return labelOf(levels...)
}

// anyAsk is without a fault, and of an object that is there for the most part.
func anyAsk(source *rand.Rand, k impl.Kernel) impl.Ask {
	paths := plainPaths(k)
	place := source.Intn(len(paths))
	path := slices.Clone(paths[place])
	if source.Intn(12) == 0 {
		path = append(path, 1+source.Int63n(6))
	}
	few := func() int64 { return []int64{0, 1, source.Int63n(12), source.Int63n(201)}[source.Intn(4)] }
	a := impl.Ask{Kind: 1 + source.Int63n(6), Path: path[:min(6, len(path))]}
	switch a.Kind {
	case 1:
		a.What, a.Quota = 1+source.Int63n(2), few()
		a.Label = labelOf(1+source.Int63n(4), 1+source.Int63n(4), 1+source.Int63n(4), 1+source.Int63n(4))
		if source.Intn(2) == 0 {
			a.Label = labelOf(4, 4, 4, 1+source.Int63n(4))
		}
	case 2:
		a.At, a.N = few(), few()
	case 3:
		a.At, a.Data = source.Int63n(int64(len(k.Objects[place].Data))+2), dataOf(source, source.Int63n(21))
		a.At = min(a.At, 200)
	case 5:
		a.N = []int64{few(), max(0, min(200, k.Objects[place].Quota+source.Int63n(9)-4))}[source.Intn(2)]
	}
	return a
}

// spoilAsk turns one thing of an ask to what it may be, to what is just beside that, or to whatever comes.
func spoilAsk(a *impl.Ask, source *rand.Rand) {
	number := func(most int64) int64 {
		return []int64{-1, 0, 1, most, most + 1, source.Int63n(most + 1), int64(source.Uint64()) >> source.Intn(64)}[source.Intn(7)]
	}
	switch source.Intn(9) {
	case 0:
		a.Kind = number(6)
	case 1:
		a.Path = append(slices.Clone(a.Path), number(99))
	case 2:
		a.Path = make([]int64, source.Intn(9))
	case 3:
		a.What = number(2)
	case 4:
		a.Label.Levels = make([]int64, source.Intn(6))
		for category := range a.Label.Levels {
			a.Label.Levels[category] = []int64{1 + source.Int63n(4), number(5)}[source.Intn(8)/7]
		}
	case 5:
		a.Quota = number(200)
	case 6:
		a.At = number(200)
	case 7:
		a.N = number(200)
	case 8:
		a.Data = dataOf(source, source.Int63n(23))
		if len(a.Data) > 0 {
			a.Data[0] = number(65535)
		}
	}
}
