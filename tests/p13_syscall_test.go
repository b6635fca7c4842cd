package tests

// Promise 13: whatever is asked of the kernel no box has less room than is used, labels stay, and what was dropped is not found any
// more; what was written is read back, and what was made is there, empty.

import (
	"fmt"
	"math/rand"
	"slices"
	"strings"
	"testing"

	"loop.example/g00530/impl"
)

func TestAskBounds(t *testing.T) {
	got := []int64{impl.AskMake, impl.AskRead, impl.AskWrite, impl.AskDrop, impl.AskRoom, impl.AskList}
	if want := []int64{1, 2, 3, 4, 5, 6}; !slices.Equal(got, want) {
		t.Errorf("%v; want %v", got, want)
	}
}

func TestAskFaultOfGoodOnes(t *testing.T) {
	for _, text := range goodAsks() {
		wantAskFault(t, text, ask(t, text), impl.OK)
	}
}

func TestAskFaultOfFaultyOnes(t *testing.T) {
	for _, f := range faultyAsks(t) {
		wantAskFault(t, f.name, f.ask, f.code)
		if plain := plainAskFault(f.ask); plain != f.code {
			t.Errorf("%s: the test's own telling says %d; want %d", f.name, plain, f.code)
		}
	}
}

// The edges of each field, where it is right and where it is not.
func TestAskFaultRows(t *testing.T) {
	thing := labelOf(2, 2, 2, 2)
	for _, row := range []struct {
		ask  impl.Ask
		code int64
	}{
		{impl.Ask{}, impl.ErrForm}, {impl.Ask{Kind: -1}, impl.ErrForm}, {impl.Ask{Kind: 7}, impl.ErrForm}, {impl.Ask{Kind: 1}, impl.ErrRange}, {impl.Ask{Kind: 2}, impl.OK}, {impl.Ask{Kind: 3}, impl.OK}, {impl.Ask{Kind: 4}, impl.OK}, {impl.Ask{Kind: 5}, impl.OK}, {impl.Ask{Kind: 6}, impl.OK},
		{impl.Ask{Kind: 1, Label: thing}, impl.ErrRange}, {impl.Ask{Kind: 1, What: 1, Label: thing}, impl.OK}, {impl.Ask{Kind: 1, What: 2, Label: thing}, impl.OK}, {impl.Ask{Kind: 1, What: 3, Label: thing}, impl.ErrRange}, {impl.Ask{Kind: 1, What: -1, Label: thing}, impl.ErrRange},
		{impl.Ask{Kind: 1, What: 1}, impl.ErrMany}, {impl.Ask{Kind: 1, What: 1, Label: labelOf(2, 2, 2)}, impl.ErrMany}, {impl.Ask{Kind: 1, What: 1, Label: labelOf(2, 2, 2, 6)}, impl.ErrRange}, {impl.Ask{Kind: 1, What: 1, Label: labelOf(2, 2, 2, 0)}, impl.ErrForm}, {impl.Ask{Kind: 1, What: 1, Label: labelOf(2, 5, 2, 2)}, impl.ErrForm},
		{impl.Ask{Kind: 1, What: 1, Label: thing, Quota: 200}, impl.OK}, {impl.Ask{Kind: 1, What: 1, Label: thing, Quota: 201}, impl.ErrRange}, {impl.Ask{Kind: 1, What: 1, Label: thing, Quota: -1}, impl.ErrRange},
		{impl.Ask{Kind: 2, At: 200, N: 200}, impl.OK}, {impl.Ask{Kind: 2, At: 201}, impl.ErrRange}, {impl.Ask{Kind: 2, At: -1}, impl.ErrRange}, {impl.Ask{Kind: 2, N: 201}, impl.ErrRange}, {impl.Ask{Kind: 2, N: -1}, impl.ErrRange},
		{impl.Ask{Kind: 3, At: 200, Data: []int64{0, 65535}}, impl.OK}, {impl.Ask{Kind: 3, At: 201}, impl.ErrRange}, {impl.Ask{Kind: 3, At: -1}, impl.ErrRange}, {impl.Ask{Kind: 3, Data: []int64{-1}}, impl.ErrRange}, {impl.Ask{Kind: 3, Data: []int64{65536}}, impl.ErrRange}, {impl.Ask{Kind: 3, Data: make([]int64, 20)}, impl.OK}, {impl.Ask{Kind: 3, Data: make([]int64, 21)}, impl.ErrMany},
		{impl.Ask{Kind: 5, N: 200}, impl.OK}, {impl.Ask{Kind: 5, N: 201}, impl.ErrRange}, {impl.Ask{Kind: 5, N: -1}, impl.ErrRange},
		{impl.Ask{Kind: 6, Path: []int64{1, 99, 1, 99, 1, 99}}, impl.OK}, {impl.Ask{Kind: 6, Path: []int64{1, 1, 1, 1, 1, 1, 1}}, impl.ErrMany}, {impl.Ask{Kind: 6, Path: []int64{0}}, impl.ErrRange}, {impl.Ask{Kind: 6, Path: []int64{100}}, impl.ErrRange}, {impl.Ask{Kind: 6, Path: []int64{1, 1, 1, 1, 1, 100}}, impl.ErrRange},
		// What a kind has not is told ahead of what is too many, that ahead of what is out of bounds, and of a make that ahead of its label.
		{impl.Ask{Kind: 4, N: 1, Path: make([]int64, 7)}, impl.ErrForm}, {impl.Ask{Kind: 4, Path: make([]int64, 7)}, impl.ErrMany}, {impl.Ask{Kind: 2, At: -1, Data: make([]int64, 21)}, impl.ErrForm}, {impl.Ask{Kind: 3, At: 201, Data: make([]int64, 21)}, impl.ErrMany}, {impl.Ask{Kind: 3, At: 201, Path: make([]int64, 7)}, impl.ErrMany},
		{impl.Ask{Kind: 1, What: 3, Label: labelOf(0)}, impl.ErrRange}, {impl.Ask{Kind: 1, What: 1, Quota: 201}, impl.ErrRange}, {impl.Ask{Kind: 1, What: 1, Path: []int64{0}, Label: labelOf(0, 0, 0, 0)}, impl.ErrRange}, {impl.Ask{Kind: 1, What: 1, Path: make([]int64, 7), Label: labelOf(0, 0, 0, 0)}, impl.ErrMany}, {impl.Ask{Kind: 1, At: 1, Label: labelOf(0, 0, 0, 0)}, impl.ErrForm},
	} {
		wantAskFault(t, "a row", row.ask, row.code)
	}
}

// Each number of each field, where it is of each kind: of one that has the field and of one that has it not.
func TestAskFaultAtTheEdges(t *testing.T) {
	thing := func() impl.Label { return labelOf(2, 2, 2, 2) }
	for _, kind := range append(farNumbers(), -1, 0, 1, 2, 3, 4, 5, 6, 7, 8, 1<<32+1, 1<<8+4) {
		for _, number := range append(farNumbers(), -1, 0, 1, 2, 3, 4, 98, 99, 100, 101, 199, 200, 201, 202, 65534, 65535, 65536, 1<<32+2, 1<<16+1) {
			for _, base := range []impl.Ask{{Kind: kind}, {Kind: kind, What: 2, Label: thing()}, {Kind: kind, Path: []int64{4, 5}, What: 1, Label: thing(), Quota: 7}} {
				for name, turn := range map[string]func(a *impl.Ask){
					"what": func(a *impl.Ask) { a.What = number }, "quota": func(a *impl.Ask) { a.Quota = number }, "at": func(a *impl.Ask) { a.At = number }, "n": func(a *impl.Ask) { a.N = number },
					"path": func(a *impl.Ask) { a.Path = []int64{3, number} }, "data": func(a *impl.Ask) { a.Data = []int64{number, 5} }, "level": func(a *impl.Ask) { a.Label = labelOf(2, number, 2, 2) },
				} {
					a := turnedAsk(base, turn)
					wantAskFault(t, fmt.Sprint(name, " ", number), a, plainAskFault(a))
				}
			}
		}
	}
}

func TestAskFaultOfLengths(t *testing.T) {
	for kind := int64(0); kind <= 7; kind++ {
		for many := range 30 {
			a := impl.Ask{Kind: kind, Path: slices.Repeat([]int64{99}, many)}
			if kind == 1 {
				a.What, a.Label = 1, labelOf(1, 2, 3, 4)
			}
			want := map[bool]int64{true: impl.OK, false: impl.ErrMany}[many <= 6]
			if kind < 1 || kind > 6 {
				want = impl.ErrForm
			}
			wantAskFault(t, fmt.Sprint("a path of ", many), a, want)
			a.Path, a.Data = nil, make([]int64, many)
			switch {
			case many == 0 && kind >= 1 && kind <= 6, kind == 3 && many <= 20:
				want = impl.OK
			case kind == 3:
				want = impl.ErrMany
			default:
				want = impl.ErrForm
			}
			wantAskFault(t, fmt.Sprint("data of ", many), a, want)
		}
	}
}

func TestAskFaultOfEachLabel(t *testing.T) {
	eachLabel(func(l impl.Label) {
		want := int64(impl.OK)
		if slices.Contains(l.Levels, 0) || slices.Contains(l.Levels, 5) {
			want = impl.ErrForm
		}
		wantAskFault(t, "a make", impl.Ask{Kind: 1, What: 2, Label: l}, want)
		for kind := int64(2); kind <= 6; kind++ {
			wantAskFault(t, "a label that its kind has not", impl.Ask{Kind: kind, Label: l}, impl.ErrForm)
		}
	})
}

// Of two faults of one ask the one of the earlier code is told, whichever they are.
func TestAskFaultOrder(t *testing.T) {
	for _, text := range []string{"make - text 1111 5", "read 2 0 1", "write 2 1 9", "drop 2", "room 2 3", "list 4"} {
		base := ask(t, text)
		stages := [][]askTurn{tooMuch(base.Kind), tooMany(base.Kind), outOfBounds(base.Kind), wrongLabels(t, base.Kind)}
		for first := range stages {
			for second := first + 1; second < len(stages); second++ {
				for _, later := range stages[second] {
					for _, earlier := range stages[first] {
						a := turnedAsk(turnedAsk(base, later.turn), earlier.turn)
						wantAskFault(t, text+" with "+earlier.name+", and "+later.name, a, earlier.code)
					}
				}
			}
			for _, f := range stages[first] {
				a := turnedAsk(base, f.turn)
				a.Kind = 7
				wantAskFault(t, text+" as the kind 7 with "+f.name, a, impl.ErrForm)
			}
		}
	}
}

func TestAskFaultOfAnyOnes(t *testing.T) {
	source, codes := rand.New(rand.NewSource(131)), map[int64]int{}
	for range 60000 {
		a := anyAsk(source, anyKernel(source, 1+source.Intn(4)))
		for range source.Intn(3) {
			spoilAsk(&a, source)
		}
		want := plainAskFault(a)
		codes[want]++
		wantAskFault(t, "any ask", a, want)
		if t.Failed() {
			return
		}
	}
	for _, code := range []int64{impl.OK, impl.ErrForm, impl.ErrMany, impl.ErrRange} {
		if codes[code] < 1000 {
			t.Errorf("too few asks of code %d: %d", code, codes[code])
		}
	}
}

// In the standard kernel the first box is 1111, 4 and 4.5 are 1311, 2 (a text) 1111, 4.1 (a text) 3333, 4.5.8 (a text) 2222, 7 0123.
func TestMayPassRows(t *testing.T) {
	k := kernel(t, standardKernel)
	for _, row := range []struct {
		who  string
		path string
		want bool
	}{
		// To the first one there is no way: all may pass.
		{"1111", "-", true}, {"0000", "-", true}, {"JJJJ", "-", true}, {"****", "-", true},
		// In the first box, all that is there, whatever its own label is.
		{"1111", "2", true}, {"1111", "4", true}, {"1111", "7", true}, {"0111", "2", false}, {"0111", "4", false}, {"1110", "7", false}, {"*000", "2", false}, {"*111", "2", true}, {"3333", "2", true}, {"J111", "2", true},
		// A box that may not be observed, at the last place and at the first.
		{"1111", "4.1", false}, {"1111", "4.5", false}, {"1111", "4.5.8", false}, {"0311", "4.1", false}, {"0311", "4.5.8", false}, {"*000", "4.5.8", false}, {"1311", "4.1", true}, {"1311", "4.5", true}, {"1311", "4.5.8", true}, {"1*11", "4.5.8", true}, {"*2**", "4.5", false},
		// None, and on through a text.
		{"****", "1", false}, {"****", "3", false}, {"****", "4.2", false}, {"****", "4.5.1", false}, {"****", "5", false}, {"****", "7.1", false}, {"****", "2.1", false}, {"****", "4.1.1", false}, {"****", "4.5.8.8", false}, {"****", "2.2", false},
		{"****", "4.5.8", true}, {"****", "0", false}, {"****", "-1", false}, {"****", "100", false}, {"****", "4.0", false}, {"1111", "9", false},
	} {
		wantMayPass(t, "the standard kernel", k, label(t, row.who), pathOf(t, row.path), row.want)
	}
}

// One box of a way that may not be observed, at each of its places, is as if there were nothing; the last object itself does not count.
func TestMayPassOfAWayThatIsShut(t *testing.T) {
	who := label(t, "1111")
	for shut := range 12 {
		k := kernel(t, deepKernel())
		k.Objects[shut].Label = label(t, "1121")
		for many := range 12 {
			way := slices.Repeat([]int64{1}, many)
			wantMayPass(t, fmt.Sprint("box ", shut, " is shut"), k, who, way, shut >= many)
			if many > 6 {
				continue
			}
			want := impl.AskResult{Code: impl.ErrNone}
			if shut == many {
				want.Code = impl.ErrDenied
			} else if shut > many {
				want = impl.AskResult{List: []int64{1}, Kernel: k}
			}
			wantReply(t, fmt.Sprint("box ", shut, " is shut, to ", many), impl.AskKernel(k, who, impl.Ask{Kind: 6, Path: way}), want)
		}
	}
}

func TestMayPassOfEachLabel(t *testing.T) {
	k := kernel(t, standardKernel)
	paths := append(plainPaths(k), []int64{9}, []int64{4, 9}, []int64{2, 1}, []int64{4, 5, 8, 1}, []int64{0}, []int64{5})
	eachLabel(func(who impl.Label) {
		for _, p := range paths {
			wantMayPass(t, "the standard kernel", k, who, p, plainMayPass(k, who, p))
		}
	})
}

func TestMayPassOfAnyOnes(t *testing.T) {
	source, answers := rand.New(rand.NewSource(132)), map[bool]int{}
	for range 20000 {
		k, who := anyKernel(source, 1+source.Intn(12)), anyWho(source)
		p := anyAsk(source, k).Path
		if source.Intn(9) == 0 {
			spoilKernel(&k, source)
		}
		want := plainMayPass(k, who, p)
		answers[want]++
		wantMayPass(t, "any kernel", k, who, p, want)
		if t.Failed() {
			return
		}
	}
	if answers[true] < 2000 || answers[false] < 2000 {
		t.Errorf("too few of one kind: %v", answers)
	}
}

// Whoever passes, a fault shuts every way, that of nothing too. An ask's bound of 6 is none of a way's.
func TestMayPassFaults(t *testing.T) {
	for _, f := range faultyKernels(t) {
		for _, way := range []string{"-", "2", "4.5", "9"} {
			wantMayPass(t, f.name, f.kernel, label(t, "****"), pathOf(t, way), false)
		}
	}
	for _, f := range faultyLabels() {
		for _, way := range []string{"-", "2", "4.5", "9"} {
			wantMayPass(t, f.name, kernel(t, standardKernel), f.label, pathOf(t, way), false)
		}
	}
	for many := range 14 {
		wantMayPass(t, "a deep kernel", kernel(t, deepKernel()), label(t, "1111"), slices.Repeat([]int64{1}, many), many < 12)
	}
}

// askRow is an ask, and what is answered: where it is served and the kernel behind it is not told, it is as before.
type askRow struct {
	kernel string
	who    string
	ask    string
	code   int64
	value  int64
	list   string
	after  string
}

func wantAskRows(t *testing.T, rows []askRow) {
	t.Helper()
	for _, row := range rows {
		k, who, a := kernel(t, row.kernel), label(t, row.who), ask(t, row.ask)
		want := impl.AskResult{Code: row.code}
		if row.code == impl.OK {
			want = impl.AskResult{Value: row.value, List: numbers(t, row.list), Kernel: k}
		}
		if row.after != "" {
			want.Kernel = kernel(t, row.after)
		}
		wantReply(t, fmt.Sprintf("%s by %s of %s", row.ask, row.who, row.kernel), impl.AskKernel(k, who, a), want)
		wantAskOf(t, k, who, a)
		codes := impl.AskAll(k, who, []impl.Ask{a})
		if len(codes.List) != 1 || codes.List[0] != row.code || row.code == impl.OK && !sameKernel(codes.Kernel, want.Kernel) {
			t.Errorf("%s by %s of %s, in a list: %v", row.ask, row.who, row.kernel, codes)
		}
	}
}

// turnedText puts a piece of a kernel's text in the place of another, which has to be there.
func turnedText(t *testing.T, text, piece, other string) string {
	t.Helper()
	if strings.Count(text, piece) != 1 {
		t.Fatalf("the test's own %q is not once in %q", piece, text)
	}
	return strings.Replace(text, piece, other, 1)
}

func TestMakeRows(t *testing.T) {
	const s = standardKernel
	first := turnedText(t, s, "1111 100 9", "1111 100 10")
	inFour := turnedText(t, s, "1311 40 9", "1311 40 10")
	inFive := turnedText(t, s, "1311 20 9", "1311 20 10")
	inSeven := turnedText(t, s, "0123 9 1", "0123 9 2")
	wantAskRows(t, []askRow{
		{s, "1111", "make - text 1111 5", 0, 9, "", first + "; text 0 9 1111 5"}, {s, "1111", "make - box 1111 5", 0, 9, "", first + "; box 0 9 1111 5 1"}, {s, "1111", "make - text 3333 0", 0, 9, "", first + "; text 0 9 3333 0"},
		{s, "*111", "make - box 1311 5", 0, 9, "", first + "; box 0 9 1311 5 1"}, {s, "****", "make - text 0000 5", 0, 9, "", first + "; text 0 9 0000 5"},
		{s, "1311", "make 4 text 1311 1", 0, 9, "", inFour + "; text 1 9 1311 1"}, {s, "1*11", "make 4 box 1111 1", 0, 9, "", inFour + "; box 1 9 1111 1 1"}, {s, "1311", "make 4.5 text 2322 1", 0, 9, "", inFive + "; text 3 9 2322 1"}, {s, "****", "make 7 box 3333 2", 0, 1, "", inSeven + "; box 6 1 3333 2 1"},
		// Just what is free, and one more.
		{s, "1111", "make - text 1111 46", 0, 9, "", first + "; text 0 9 1111 46"}, {s, "1111", "make - box 1111 46", 0, 9, "", first + "; box 0 9 1111 46 1"}, {s, "1111", "make - text 1111 47", impl.ErrFull, 0, "", ""}, {s, "1111", "make - box 1111 47", impl.ErrFull, 0, "", ""}, {s, "1111", "make - box 1111 200", impl.ErrFull, 0, "", ""},
		{s, "1311", "make 4 text 1311 15", 0, 9, "", inFour + "; text 1 9 1311 15"}, {s, "1311", "make 4 text 1311 16", impl.ErrFull, 0, "", ""}, {s, "1311", "make 4.5 box 1311 17", 0, 9, "", inFive + "; box 3 9 1311 17 1"}, {s, "1311", "make 4.5 box 1311 18", impl.ErrFull, 0, "", ""}, {s, "****", "make 7 text 1111 9", 0, 1, "", inSeven + "; text 6 1 1111 9"}, {s, "****", "make 7 text 1111 10", impl.ErrFull, 0, "", ""},
		// In a text, ahead of all that the labels forbid and of what is full.
		{s, "1111", "make 2 text 1111 1", impl.ErrForm, 0, "", ""}, {s, "3333", "make 2 text 1111 1", impl.ErrForm, 0, "", ""}, {s, "1111", "make 2 text 0000 200", impl.ErrForm, 0, "", ""}, {s, "1311", "make 4.1 box 1311 1", impl.ErrForm, 0, "", ""},
		// By who may not modify the box: who may observe it, and who may not.
		{s, "1311", "make - text 1311 5", impl.ErrDenied, 0, "", ""}, {s, "0111", "make - text 1111 5", impl.ErrDenied, 0, "", ""}, {s, "J111", "make - text 1111 5", impl.ErrDenied, 0, "", ""}, {s, "1111", "make 4 text 1311 1", impl.ErrDenied, 0, "", ""}, {s, "1311", "make 7 text 3333 1", impl.ErrDenied, 0, "", ""}, {s, "1311", "make - text 1311 200", impl.ErrDenied, 0, "", ""},
		// By who is not below the label of what is to be made.
		{s, "1111", "make - text 0111 5", impl.ErrDenied, 0, "", ""}, {s, "1111", "make - text 1110 5", impl.ErrDenied, 0, "", ""}, {s, "1*11", "make - text 1101 5", impl.ErrDenied, 0, "", ""}, {s, "1*11", "make - text 1011 5", 0, 9, "", first + "; text 0 9 1011 5"}, {s, "1111", "make - text 3303 200", impl.ErrDenied, 0, "", ""},
		// Where there is nothing, or none may pass.
		{s, "1111", "make 9 text 1111 1", impl.ErrNone, 0, "", ""}, {s, "****", "make 4.9 text 1111 1", impl.ErrNone, 0, "", ""}, {s, "****", "make 2.1 text 1111 1", impl.ErrNone, 0, "", ""}, {s, "1111", "make 4.5 text 1311 1", impl.ErrNone, 0, "", ""}, {s, "0000", "make 4 text 1311 1", impl.ErrNone, 0, "", ""}, {s, "0111", "make 2 text 1111 1", impl.ErrNone, 0, "", ""},
	})
}

// The last name that a box has, and none behind it; as many objects as may be, and none behind them.
func TestMakeOfTheLastOnes(t *testing.T) {
	eleven := mixedKernel[:strings.LastIndex(mixedKernel, ";")]
	wantAskRows(t, []askRow{
		{"box -1 0 1111 50 98; text 0 5 1111 5", "1111", "make - text 1111 1", 0, 98, "", "box -1 0 1111 50 99; text 0 5 1111 5; text 0 98 1111 1"},
		{"box -1 0 1111 50 99; text 0 5 1111 5", "1111", "make - box 1111 1", 0, 99, "", "box -1 0 1111 50 100; text 0 5 1111 5; box 0 99 1111 1 1"},
		{"box -1 0 1111 50 100; text 0 5 1111 5", "1111", "make - text 1111 1", impl.ErrFull, 0, "", ""}, {"box -1 0 1111 50 100", "1111", "make - box 1111 0", impl.ErrFull, 0, "", ""}, {"box -1 0 1111 50 100", "0111", "make - box 1111 0", impl.ErrDenied, 0, "", ""},
		{"box -1 0 1111 50 2; box 0 1 1111 9 100", "1111", "make 1 text 1111 1", impl.ErrFull, 0, "", ""}, {"box -1 0 1111 50 2; box 0 1 1111 9 100", "1111", "make - text 1111 1", 0, 2, "", "box -1 0 1111 50 3; box 0 1 1111 9 100; text 0 2 1111 1"},
		{eleven, "1311", "make 7 text 1311 0", 0, 6, "", turnedText(t, eleven, "1311 90 6", "1311 90 7") + "; text 1 6 1311 0"}, {eleven, "****", "make 1 box 0123 0", 0, 3, "", turnedText(t, eleven, "0123 105 3", "0123 105 4") + "; box 8 3 0123 0 1"},
		{mixedKernel, "1311", "make 7 text 1311 0", impl.ErrFull, 0, "", ""}, {mixedKernel, "****", "make 1 box 0123 0", impl.ErrFull, 0, "", ""}, {mixedKernel, "3333", "make 7 text 3333 0", impl.ErrDenied, 0, "", ""}, {mixedKernel, "1111", "make 3 text 3333 0", impl.ErrForm, 0, "", ""},
		{deepKernel(), "1111", "make 1.1.1.1.1.1 text 1111 0", impl.ErrFull, 0, "", ""}, {"box -1 0 1111 0 1", "1111", "make - text 1111 0", 0, 1, "", "box -1 0 1111 0 2; text 0 1 1111 0"}, {"box -1 0 1111 0 1", "1111", "make - text 1111 1", impl.ErrFull, 0, "", ""}, {"box -1 0 1111 200 1", "1111", "make - box 1111 200", 0, 1, "", "box -1 0 1111 200 2; box 0 1 1111 200 1"},
	})
	k, who := impl.NewKernel(label(t, "1111"), 9).Kernel, label(t, "1111")
	for n := int64(1); n <= 14; n++ {
		got := wantAskOf(t, k, who, ask(t, "make - text 1111 0"))
		if n > 11 {
			wantNoReply(t, "the thirteenth", got, impl.ErrFull)
			continue
		}
		if got.Value != n {
			t.Errorf("the name of number %d is %d", n, got.Value)
		}
		k = got.Kernel
	}
}

// Names are never used twice, so that after 99 of them no more can be made, though there is all the room.
func TestMakeOfAllNames(t *testing.T) {
	k, who := impl.NewKernel(label(t, "1111"), 9).Kernel, label(t, "1111")
	for n := int64(1); n <= 101; n++ {
		got := wantAskOf(t, k, who, ask(t, "make - text 1111 9"))
		if n > 99 {
			wantNoReply(t, "a name more", got, impl.ErrFull)
			continue
		}
		if got.Code != impl.OK || got.Value != n {
			t.Fatalf("make %d: %v", n, got)
		}
		k = wantAskOf(t, got.Kernel, who, impl.Ask{Kind: 4, Path: []int64{n}}).Kernel
	}
}

func TestReadRows(t *testing.T) {
	const s = standardKernel
	wantAskRows(t, []askRow{
		{s, "1111", "read 2 0 0", 0, 0, "", ""}, {s, "1111", "read 2 0 1", 0, 0, "7", ""}, {s, "1111", "read 2 0 2", 0, 0, "7 8", ""}, {s, "1111", "read 2 0 3", 0, 0, "7 8", ""}, {s, "1111", "read 2 0 200", 0, 0, "7 8", ""}, {s, "1111", "read 2 1 1", 0, 0, "8", ""}, {s, "1111", "read 2 1 200", 0, 0, "8", ""}, {s, "1111", "read 2 1 0", 0, 0, "", ""},
		// At the end, behind it, and as far as may be.
		{s, "1111", "read 2 2 1", 0, 0, "", ""}, {s, "1111", "read 2 3 1", 0, 0, "", ""}, {s, "1111", "read 2 2 200", 0, 0, "", ""}, {s, "1111", "read 2 200 200", 0, 0, "", ""}, {s, "1111", "read 2 200 0", 0, 0, "", ""},
		{s, "3333", "read 4.1 0 9", 0, 0, "1 2 3", ""}, {s, "****", "read 4.1 1 1", 0, 0, "2", ""}, {s, "3333", "read 4.5.8 0 9", 0, 0, "", ""}, {s, "3333", "read 2 0 9", 0, 0, "7 8", ""}, {s, "*111", "read 2 0 9", 0, 0, "7 8", ""}, {s, "JJJJ", "read 4.1 0 9", 0, 0, "1 2 3", ""},
		{s, "1111", "read - 0 1", impl.ErrForm, 0, "", ""}, {s, "1111", "read 4 0 1", impl.ErrForm, 0, "", ""}, {s, "0000", "read - 0 1", impl.ErrForm, 0, "", ""}, {s, "1311", "read 4.5 200 0", impl.ErrForm, 0, "", ""},
		{s, "1311", "read 4.1 0 1", impl.ErrDenied, 0, "", ""}, {s, "1*11", "read 4.1 0 0", impl.ErrDenied, 0, "", ""}, {s, "1311", "read 4.5.8 200 1", impl.ErrDenied, 0, "", ""}, {s, "33J2", "read 4.1 0 1", impl.ErrDenied, 0, "", ""},
		{s, "1111", "read 4.1 0 1", impl.ErrNone, 0, "", ""}, {s, "0111", "read 2 0 1", impl.ErrNone, 0, "", ""}, {s, "****", "read 3 0 1", impl.ErrNone, 0, "", ""}, {s, "****", "read 2.1 0 1", impl.ErrNone, 0, "", ""},
	})
}

// Each At and N, of texts of each length.
func TestReadOfEachRange(t *testing.T) {
	for many := range 6 {
		k := kernel(t, "box -1 0 1111 50 2; text 0 1 1111 9"+strings.Repeat(" 5", many))
		for n := range k.Objects[1].Data {
			k.Objects[1].Data[n] = int64(10 + n)
		}
		for _, at := range []int64{0, 1, 2, 3, 4, 5, 6, 7, 198, 199, 200} {
			for _, n := range []int64{0, 1, 2, 3, 4, 5, 6, 7, 198, 199, 200} {
				list := []int64{}
				for place := at; place < at+n && place < int64(many); place++ {
					list = append(list, 10+place)
				}
				got := wantAskOf(t, k, label(t, "1111"), impl.Ask{Kind: 2, Path: []int64{1}, At: at, N: n})
				wantReply(t, fmt.Sprintf("%d from %d on of %d", n, at, many), got, impl.AskResult{List: list, Kernel: k})
			}
		}
	}
}

func TestWriteRows(t *testing.T) {
	const s = standardKernel
	two := func(data string) string { return turnedText(t, s, "1111 5 7 8", strings.TrimSpace("1111 5 "+data)) }
	one := func(data string) string { return turnedText(t, s, "3333 5 1 2 3", "3333 5 "+data) }
	wantAskRows(t, []askRow{
		// Over what was there, at its front, in its midst and at its end; what is behind stays.
		{s, "1111", "write 2 0 9", 0, 2, "", two("9 8")}, {s, "1111", "write 2 1 9", 0, 2, "", two("7 9")}, {s, "1111", "write 2 0 9 0", 0, 2, "", two("9 0")}, {s, "****", "write 4.1 0 9", 0, 3, "", one("9 2 3")}, {s, "****", "write 4.1 1 9", 0, 3, "", one("1 9 3")}, {s, "****", "write 4.1 2 9", 0, 3, "", one("1 2 9")}, {s, "3*3*", "write 4.1 0 9 8", 0, 3, "", one("9 8 3")},
		// At the end, and past it.
		{s, "1111", "write 2 2 9", 0, 3, "", two("7 8 9")}, {s, "1111", "write 2 1 9 65535", 0, 3, "", two("7 9 65535")}, {s, "1111", "write 2 1 4 5 6", 0, 4, "", two("7 4 5 6")}, {s, "****", "write 4.5.8 0 9", 0, 1, "", turnedText(t, s, "2222 3", "2222 3 9")},
		// At just how many there are, and one more.
		{s, "1111", "write 2 3 9", impl.ErrFull, 0, "", ""}, {s, "1111", "write 2 3", impl.ErrFull, 0, "", ""}, {s, "1111", "write 2 200 9", impl.ErrFull, 0, "", ""}, {s, "****", "write 4.5.8 1 9", impl.ErrFull, 0, "", ""},
		// Just as many as the quota, and one more.
		{s, "1111", "write 2 2 1 2 3", 0, 5, "", two("7 8 1 2 3")}, {s, "1111", "write 2 2 1 2 3 4", impl.ErrFull, 0, "", ""}, {s, "1111", "write 2 0 1 2 3 4 5", 0, 5, "", two("1 2 3 4 5")}, {s, "1111", "write 2 0 1 2 3 4 5 6", impl.ErrFull, 0, "", ""}, {s, "1111", "write 2 1 1 2 3 4", 0, 5, "", two("7 1 2 3 4")}, {s, "1111", "write 2 1 1 2 3 4 5", impl.ErrFull, 0, "", ""},
		// Nothing.
		{s, "1111", "write 2 0", 0, 2, "", ""}, {s, "1111", "write 2 1", 0, 2, "", ""}, {s, "1111", "write 2 2", 0, 2, "", ""}, {s, "****", "write 4.5.8 0", 0, 0, "", ""}, {"box -1 0 1111 5 2; text 0 1 1111 0", "1111", "write 1 0", 0, 0, "", ""}, {"box -1 0 1111 5 2; text 0 1 1111 0", "1111", "write 1 0 0", impl.ErrFull, 0, "", ""},
		// Of a box.
		{s, "1111", "write - 0 1", impl.ErrForm, 0, "", ""}, {s, "1111", "write 4 0 1", impl.ErrForm, 0, "", ""}, {s, "3333", "write 4.5 200 1", impl.ErrForm, 0, "", ""}, {s, "0000", "write - 0", impl.ErrForm, 0, "", ""},
		// By who may observe it but not modify it, and by who may neither.
		{s, "1311", "write 2 0 9", impl.ErrDenied, 0, "", ""}, {s, "3333", "write 2 0", impl.ErrDenied, 0, "", ""}, {s, "JJJJ", "write 2 0 9", impl.ErrDenied, 0, "", ""}, {s, "1311", "write 4.1 0 9", impl.ErrDenied, 0, "", ""}, {s, "1311", "write 4.5.8 200 9", impl.ErrDenied, 0, "", ""}, {s, "3333", "write 2 9 9", impl.ErrDenied, 0, "", ""}, {s, "3333", "write 4.1 0 9", 0, 3, "", one("9 2 3")},
		{s, "1111", "write 4.1 0 9", impl.ErrNone, 0, "", ""}, {s, "0111", "write 2 0 9", impl.ErrNone, 0, "", ""}, {s, "****", "write 3 0 9", impl.ErrNone, 0, "", ""}, {s, "****", "write 2.2 0 9", impl.ErrNone, 0, "", ""},
	})
}

// Each At with each length of Data, of texts of each length and each Quota: what was written is read back.
func TestWriteOfEachRange(t *testing.T) {
	who := label(t, "1111")
	for quota := range int64(7) {
		for many := range quota + 1 {
			k := impl.NewKernel(who, 50).Kernel
			k.Objects[0].Next = 2
			text := impl.Object{Name: 1, Kind: 2, Label: who, Quota: quota}
			for n := range many {
				text.Data = append(text.Data, 10+n)
			}
			k.Objects = append(k.Objects, text)
			for at := range int64(9) {
				for length := range int64(9) {
					a := impl.Ask{Kind: 3, Path: []int64{1}, At: at}
					for n := range length {
						a.Data = append(a.Data, 60+n)
					}
					got := wantAskOf(t, k, who, a)
					if at > many || at+length > quota {
						wantNoReply(t, fmt.Sprintf("%d at %d of %d", length, at, many), got, impl.ErrFull)
						continue
					}
					if got.Value != max(many, at+length) {
						t.Errorf("%d at %d of %d: %d are told", length, at, many, got.Value)
					}
					back := wantAskOf(t, got.Kernel, who, impl.Ask{Kind: 2, Path: []int64{1}, At: at, N: length})
					if back.Code != impl.OK || !slices.Equal(back.List, a.Data) {
						t.Errorf("%v at %d of %d: read back as %v", a.Data, at, many, back)
					}
				}
			}
		}
	}
}

func TestDropRows(t *testing.T) {
	const s, m = standardKernel, mixedKernel
	wantAskRows(t, []askRow{
		{s, "1111", "drop -", impl.ErrForm, 0, "", ""}, {s, "0000", "drop -", impl.ErrForm, 0, "", ""}, {s, "****", "drop -", impl.ErrForm, 0, "", ""},
		{s, "1111", "drop 2", 0, 1, "", "box -1 0 1111 100 9; box 0 4 1311 40 9; box 1 5 1311 20 9; text 1 1 3333 5 1 2 3; text 2 8 2222 3; box 0 7 0123 9 1"},
		{s, "1111", "drop 7", 0, 1, "", "box -1 0 1111 100 9; box 0 4 1311 40 9; text 0 2 1111 5 7 8; box 1 5 1311 20 9; text 1 1 3333 5 1 2 3; text 3 8 2222 3"},
		// Who may modify the box may drop what is in it, though it may not observe that.
		{s, "1111", "drop 4", 0, 4, "", "box -1 0 1111 100 9; text 0 2 1111 5 7 8; box 0 7 0123 9 1"}, {s, "1311", "drop 4.5", 0, 2, "", "box -1 0 1111 100 9; box 0 4 1311 40 9; text 0 2 1111 5 7 8; text 1 1 3333 5 1 2 3; box 0 7 0123 9 1"}, {s, "1311", "drop 4.1", 0, 1, "", "box -1 0 1111 100 9; box 0 4 1311 40 9; text 0 2 1111 5 7 8; box 1 5 1311 20 9; text 3 8 2222 3; box 0 7 0123 9 1"}, {s, "1311", "drop 4.5.8", 0, 1, "", "box -1 0 1111 100 9; box 0 4 1311 40 9; text 0 2 1111 5 7 8; box 1 5 1311 20 9; text 1 1 3333 5 1 2 3; box 0 7 0123 9 1"},
		// Who may not modify the box may not, though it may modify the object.
		{s, "1311", "drop 4", impl.ErrDenied, 0, "", ""}, {s, "1311", "drop 2", impl.ErrDenied, 0, "", ""}, {s, "3333", "drop 4.1", impl.ErrDenied, 0, "", ""}, {s, "JJJJ", "drop 4.5.8", impl.ErrDenied, 0, "", ""}, {s, "2322", "drop 4.5.8", impl.ErrDenied, 0, "", ""},
		{s, "1111", "drop 4.5", impl.ErrNone, 0, "", ""}, {s, "0111", "drop 2", impl.ErrNone, 0, "", ""}, {s, "****", "drop 3", impl.ErrNone, 0, "", ""}, {s, "****", "drop 2.1", impl.ErrNone, 0, "", ""}, {s, "****", "drop 4.5.8.1", impl.ErrNone, 0, "", ""},
		// All that is in it and in what is in it, where others stand between them and behind.
		{m, "****", "drop 7", 0, 6, "", "box -1 0 1111 200 100; text 0 3 1111 5 1 2 3; text 0 99 0000 0; box 0 1 0123 105 3; text 3 1 1111 100; text 3 2 1111 5 1 1 1 1 1"},
		{m, "****", "drop 7.5", 0, 4, "", "box -1 0 1111 200 100; box 0 7 1311 90 6; text 0 3 1111 5 1 2 3; text 1 1 1311 50; text 0 99 0000 0; box 0 1 0123 105 3; text 5 1 1111 100; text 5 2 1111 5 1 1 1 1 1"},
		{m, "1111", "drop 1", 0, 3, "", "box -1 0 1111 200 100; box 0 7 1311 90 6; text 0 3 1111 5 1 2 3; box 1 5 1311 40 100; text 1 1 1311 50; text 3 99 3333 30 65535 0 9; box 3 1 2222 10 1; text 0 99 0000 0; text 3 7 1311 0"},
		{m, "1111", "drop 3", 0, 1, "", "box -1 0 1111 200 100; box 0 7 1311 90 6; box 1 5 1311 40 100; text 1 1 1311 50; text 2 99 3333 30 65535 0 9; box 2 1 2222 10 1; text 0 99 0000 0; box 0 1 0123 105 3; text 7 1 1111 100; text 7 2 1111 5 1 1 1 1 1; text 2 7 1311 0"},
		{m, "1*11", "drop 7.5.1", 0, 1, "", "box -1 0 1111 200 100; box 0 7 1311 90 6; text 0 3 1111 5 1 2 3; box 1 5 1311 40 100; text 1 1 1311 50; text 3 99 3333 30 65535 0 9; text 0 99 0000 0; box 0 1 0123 105 3; text 7 1 1111 100; text 7 2 1111 5 1 1 1 1 1; text 3 7 1311 0"},
		{m, "1*11", "drop 7.5.7", 0, 1, "", m[:strings.LastIndex(m, ";")]},
		{deepKernel(), "1111", "drop 1", 0, 11, "", "box -1 0 1111 200 2"}, {deepKernel(), "1111", "drop 1.1.1", 0, 9, "", "box -1 0 1111 200 2; box 0 1 1111 200 2; box 1 1 1111 200 2"},
	})
}

// Each object of each kernel is dropped: what stays is asked by wantAskOf.
func TestDropOfEachObject(t *testing.T) {
	for _, text := range append(goodKernels(), standardKernel) {
		k := kernel(t, text)
		for place, p := range plainPaths(k) {
			if len(p) == 0 || len(p) > 6 {
				continue
			}
			got := wantAskOf(t, k, label(t, "****"), impl.Ask{Kind: 4, Path: p})
			if got.Code != impl.OK || got.Value < 1 {
				t.Fatalf("%v of %v: %v", p, k, got)
			}
			again := wantAskOf(t, got.Kernel, label(t, "****"), impl.Ask{Kind: 4, Path: p})
			wantNoReply(t, fmt.Sprint("object ", place, " again"), again, impl.ErrNone)
		}
	}
}

func TestRoomRows(t *testing.T) {
	const s = standardKernel
	two := func(quota int) string { return turnedText(t, s, "1111 5 7 8", fmt.Sprintf("1111 %d 7 8", quota)) }
	four := func(quota int) string { return turnedText(t, s, "1311 40 9", fmt.Sprintf("1311 %d 9", quota)) }
	five := func(quota int) string { return turnedText(t, s, "1311 20 9", fmt.Sprintf("1311 %d 9", quota)) }
	eight := func(quota int) string { return turnedText(t, s, "2222 3", fmt.Sprintf("2222 %d", quota)) }
	seven := func(quota int) string { return turnedText(t, s, "0123 9 1", fmt.Sprintf("0123 %d 1", quota)) }
	wantAskRows(t, []askRow{
		{s, "1111", "room - 100", impl.ErrForm, 0, "", ""}, {s, "0000", "room - 0", impl.ErrForm, 0, "", ""}, {s, "****", "room - 200", impl.ErrForm, 0, "", ""},
		// Of a text just what it has, and one less; of a box just what is not free, and one less.
		{s, "1111", "room 2 5", 0, 0, "", ""}, {s, "1111", "room 2 2", 0, 0, "", two(2)}, {s, "1111", "room 2 1", impl.ErrFull, 0, "", ""}, {s, "1111", "room 2 0", impl.ErrFull, 0, "", ""}, {s, "****", "room 4.5.8 0", 0, 0, "", eight(0)},
		{s, "1*11", "room 4 25", 0, 0, "", four(25)}, {s, "1*11", "room 4 24", impl.ErrFull, 0, "", ""}, {s, "1311", "room 4.5 3", 0, 0, "", five(3)}, {s, "1311", "room 4.5 2", impl.ErrFull, 0, "", ""}, {s, "****", "room 7 0", 0, 0, "", seven(0)},
		// More by just what is free of the box that it is in, and by one more.
		{s, "1111", "room 2 51", 0, 0, "", two(51)}, {s, "1111", "room 2 52", impl.ErrFull, 0, "", ""}, {s, "1*11", "room 4 86", 0, 0, "", four(86)}, {s, "1*11", "room 4 87", impl.ErrFull, 0, "", ""}, {s, "1311", "room 4.5 35", 0, 0, "", five(35)}, {s, "1311", "room 4.5 36", impl.ErrFull, 0, "", ""}, {s, "****", "room 4.5.8 20", 0, 0, "", eight(20)}, {s, "****", "room 4.5.8 21", impl.ErrFull, 0, "", ""}, {s, "****", "room 7 55", 0, 0, "", seven(55)}, {s, "****", "room 7 56", impl.ErrFull, 0, "", ""}, {s, "1111", "room 2 200", impl.ErrFull, 0, "", ""},
		// By who may not modify the box that it is in, or not the object itself, or neither.
		{s, "1311", "room 4 40", impl.ErrDenied, 0, "", ""}, {s, "3333", "room 4.1 5", impl.ErrDenied, 0, "", ""}, {s, "1111", "room 4 40", impl.ErrDenied, 0, "", ""}, {s, "1111", "room 7 9", impl.ErrDenied, 0, "", ""}, {s, "1311", "room 4.5.8 3", impl.ErrDenied, 0, "", ""}, {s, "1311", "room 4.1 5", impl.ErrDenied, 0, "", ""}, {s, "3333", "room 2 5", impl.ErrDenied, 0, "", ""}, {s, "1311", "room 2 200", impl.ErrDenied, 0, "", ""}, {s, "1111", "room 4 0", impl.ErrDenied, 0, "", ""},
		{s, "1111", "room 4.5 20", impl.ErrNone, 0, "", ""}, {s, "0111", "room 2 5", impl.ErrNone, 0, "", ""}, {s, "****", "room 3 5", impl.ErrNone, 0, "", ""}, {s, "****", "room 2.1 5", impl.ErrNone, 0, "", ""},
		{deepKernel(), "1111", "room 1 200", 0, 0, "", ""}, {deepKernel(), "1111", "room 1.1.1 199", impl.ErrFull, 0, "", ""}, {mixedKernel, "****", "room 7 91", impl.ErrFull, 0, "", ""}, {mixedKernel, "****", "room 7 90", 0, 0, "", ""}, {mixedKernel, "****", "room 7 89", impl.ErrFull, 0, "", ""},
	})
}

// Each object of each kernel is given each room.
func TestRoomOfEachObject(t *testing.T) {
	for _, text := range append(goodKernels(), standardKernel) {
		k := kernel(t, text)
		for place, p := range plainPaths(k) {
			if len(p) == 0 || len(p) > 6 {
				continue
			}
			o := k.Objects[place]
			used := int64(len(o.Data))
			if o.Kind == 1 {
				used = o.Quota - plainFree(k, int64(place)).Value
			}
			most := o.Quota + plainFree(k, o.Up).Value
			for n := range int64(201) {
				got := impl.AskKernel(k, label(t, "****"), impl.Ask{Kind: 5, Path: p, N: n})
				if n < used || n > most {
					wantNoReply(t, fmt.Sprintf("%d for %v of %v", n, p, k), got, impl.ErrFull)
					continue
				}
				after := turnedKernel(k, func(k *impl.Kernel) { k.Objects[place].Quota = n })
				wantReply(t, fmt.Sprintf("%d for %v of %v", n, p, k), got, impl.AskResult{Kernel: after})
				wantKernelFault(t, "behind it", got.Kernel, impl.OK)
			}
		}
	}
}

func TestListRows(t *testing.T) {
	const s, m = standardKernel, mixedKernel
	wantAskRows(t, []askRow{
		{s, "1111", "list -", 0, 0, "4 2 7", ""}, {s, "1311", "list -", 0, 0, "4 2 7", ""}, {s, "JJJJ", "list -", 0, 0, "4 2 7", ""}, {s, "1*11", "list -", 0, 0, "4 2 7", ""}, {s, "1311", "list 4", 0, 0, "5 1", ""}, {s, "3333", "list 4.5", 0, 0, "8", ""},
		{m, "1111", "list -", 0, 0, "7 3 99 1", ""}, {m, "1311", "list 7.5", 0, 0, "99 1 7", ""},
		// Nothing in it.
		{s, "****", "list 7", 0, 0, "", ""}, {m, "3333", "list 7.5.1", 0, 0, "", ""}, {"box -1 0 1111 5 9", "1111", "list -", 0, 0, "", ""},
		{s, "1111", "list 2", impl.ErrForm, 0, "", ""}, {s, "1311", "list 4.1", impl.ErrForm, 0, "", ""}, {s, "3333", "list 4.5.8", impl.ErrForm, 0, "", ""},
		{s, "0111", "list -", impl.ErrDenied, 0, "", ""}, {s, "*0**", "list -", impl.ErrDenied, 0, "", ""}, {s, "1111", "list 4", impl.ErrDenied, 0, "", ""}, {s, "1311", "list 7", impl.ErrDenied, 0, "", ""}, {m, "1311", "list 7.5.1", impl.ErrDenied, 0, "", ""},
		{s, "1111", "list 4.5", impl.ErrNone, 0, "", ""}, {s, "0111", "list 4", impl.ErrNone, 0, "", ""}, {s, "****", "list 5", impl.ErrNone, 0, "", ""}, {s, "****", "list 2.1", impl.ErrNone, 0, "", ""}, {s, "****", "list 99.99.99.99.99.99", impl.ErrNone, 0, "", ""},
	})
}

// Each kind of ask, by each label that there is.
func TestAsksByEachLabel(t *testing.T) {
	k, codes := kernel(t, standardKernel), map[string]int{}
	list := asks(t, "make - text 1111 5; make 4 box 1311 15; make 4.5 text 3333 1; make 7 text 0123 1; make - box 0000 1; make 2 text 1111 1; read 2 0 9; read 4.1 1 1; read 4.5.8 0 1; read 4 0 1; write 2 1 5 6; write 4.1 0 9; write 4.5.8 0 1 2 3; write - 0; drop 2; drop 4; drop 4.5; drop 4.5.8; drop -; room 2 6; room 4 30; room 4.1 4; room 4.5.8 9; room 7 1; list -; list 4; list 4.5; list 7; list 2; list 9")
	eachLabel(func(who impl.Label) {
		for _, a := range list {
			codes[fmt.Sprint(a.Kind, " ", wantAskOf(t, k, who, a).Code)]++
		}
	})
	for kind := 1; kind <= 6; kind++ {
		for _, code := range []int64{impl.OK, impl.ErrNone, impl.ErrDenied} {
			if codes[fmt.Sprint(kind, " ", code)] < 20 {
				t.Errorf("too few asks of kind %d with code %d: %v", kind, code, codes)
			}
		}
	}
}

// Who makes something of each label that a thing can have, in boxes of a few.
func TestMakeOfEachLabel(t *testing.T) {
	for _, in := range []string{"1111", "0000", "3333", "0123"} {
		k := kernel(t, "box -1 0 "+in+" 9 1")
		for _, who := range append(fewLabels(), label(t, in), label(t, "****"), label(t, "*1*1")) {
			eachThing(func(l impl.Label) {
				a := impl.Ask{Kind: 1, What: 1 + l.Levels[0]%2, Label: l, Quota: 3}
				if got := impl.AskKernel(k, who, a); !sameReply(got, plainAsk(k, who, a)) {
					wantReply(t, fmt.Sprintf("%v by %v in %s", l.Levels, who.Levels, in), got, plainAsk(k, who, a))
				}
			})
		}
	}
}

// stage is one thing that an ask is refused for; turning what stands in a stage ahead takes nothing of its refusal away.
type stage struct {
	name string
	code int64
	turn func(k *impl.Kernel, who *impl.Label, a *impl.Ask)
}

// stagesOf are all refusals of an ask of the standard kernel by one who may all, in the order in which they are asked.
func stagesOf(t *testing.T, tooMuch func(a *impl.Ask), outOfBounds func(a *impl.Ask), rest ...stage) []stage {
	return append([]stage{
		{"a fault of the kernel", impl.ErrState, func(k *impl.Kernel, who *impl.Label, a *impl.Ask) { k.Objects[6].Name = 4 }},
		{"a fault of who", impl.ErrMany, func(k *impl.Kernel, who *impl.Label, a *impl.Ask) { *who = labelOf(0, 0, 0) }},
		{"what its kind has not", impl.ErrForm, func(k *impl.Kernel, who *impl.Label, a *impl.Ask) { tooMuch(a) }},
		{"a path of 7", impl.ErrMany, func(k *impl.Kernel, who *impl.Label, a *impl.Ask) { a.Path = make([]int64, 7) }},
		{"a number", impl.ErrRange, func(k *impl.Kernel, who *impl.Label, a *impl.Ask) { outOfBounds(a) }},
	}, rest...)
}

func asksOtherwise(name string, code int64, turn func(a *impl.Ask)) stage {
	return stage{name, code, func(k *impl.Kernel, who *impl.Label, a *impl.Ask) { turn(a) }}
}

func goes(t *testing.T, name string, code int64, way string) stage {
	return asksOtherwise(name+": "+way, code, func(a *impl.Ask) { a.Path = pathOf(t, way) })
}

func asksAs(t *testing.T, who string) stage {
	return stage{"by " + who, impl.ErrDenied, func(k *impl.Kernel, now *impl.Label, a *impl.Ask) { *now = label(t, who) }}
}

// All choices of what an ask is refused for, of each kind: the first one is told, and nothing else.
func TestAskKernelOrder(t *testing.T) {
	for text, stages := range map[string][]stage{
		"make 4 box 1311 1": stagesOf(t, func(a *impl.Ask) { a.N = 1 }, func(a *impl.Ask) { a.Quota = 201 },
			asksOtherwise("too few levels", impl.ErrMany, func(a *impl.Ask) { a.Label = labelOf(2, 2, 0) }), asksOtherwise("no thing's label", impl.ErrForm, func(a *impl.Ask) { a.Label = labelOf(2, 4, 2, 0) }),
			goes(t, "none", impl.ErrNone, "3"), goes(t, "a text", impl.ErrForm, "2"), asksAs(t, "1111"), asksOtherwise("quota", impl.ErrFull, func(a *impl.Ask) { a.Quota = 47 })),
		"make - text 1111 1": stagesOf(t, func(a *impl.Ask) { a.Data = []int64{0} }, func(a *impl.Ask) { a.What = 0 },
			asksOtherwise("a level of 6", impl.ErrRange, func(a *impl.Ask) { a.Label = labelOf(2, 2, 0, 6) }), goes(t, "through a text", impl.ErrNone, "2.1"), goes(t, "a text", impl.ErrForm, "2"), asksAs(t, "3333"), asksAs(t, "1112"), asksOtherwise("quota", impl.ErrFull, func(a *impl.Ask) { a.Quota = 200 })),
		"read 4.1 0 1":  stagesOf(t, func(a *impl.Ask) { a.Quota = 1 }, func(a *impl.Ask) { a.At = 201 }, goes(t, "none", impl.ErrNone, "4.2"), goes(t, "a box", impl.ErrForm, "4.5"), asksAs(t, "1311")),
		"write 4.1 0 9": stagesOf(t, func(a *impl.Ask) { a.N = 1 }, func(a *impl.Ask) { a.Data = []int64{65536} }, goes(t, "none", impl.ErrNone, "4.2"), goes(t, "a box", impl.ErrForm, "4.5"), asksAs(t, "1311"), asksOtherwise("at", impl.ErrFull, func(a *impl.Ask) { a.At = 4 }), asksOtherwise("data", impl.ErrFull, func(a *impl.Ask) { a.Data = make([]int64, 6) })),
		"drop 4.1":      stagesOf(t, func(a *impl.Ask) { a.Data = []int64{0} }, func(a *impl.Ask) { a.Path = []int64{4, 0} }, goes(t, "none", impl.ErrNone, "4.2"), goes(t, "nothing", impl.ErrForm, "-"), asksAs(t, "3333")),
		"room 4.1 4":    stagesOf(t, func(a *impl.Ask) { a.At = 1 }, func(a *impl.Ask) { a.N = 201 }, goes(t, "none", impl.ErrNone, "4.2"), goes(t, "nothing", impl.ErrForm, "-"), asksAs(t, "3333"), asksAs(t, "1311"), asksOtherwise("less", impl.ErrFull, func(a *impl.Ask) { a.N = 2 })),
		"list 4":        stagesOf(t, func(a *impl.Ask) { a.What = 1 }, func(a *impl.Ask) { a.Path = []int64{100} }, goes(t, "none", impl.ErrNone, "3"), goes(t, "a text", impl.ErrForm, "2"), asksAs(t, "1111")),
	} {
		for chosen := range 1 << len(stages) {
			k, who, a, want, what := kernel(t, standardKernel), label(t, "****"), ask(t, text), int64(impl.OK), text
			for n := len(stages) - 1; n >= 0; n-- {
				if chosen>>n&1 == 1 {
					stages[n].turn(&k, &who, &a)
					want, what = stages[n].code, what+", "+stages[n].name
				}
			}
			got := impl.AskKernel(k, who, a)
			if want != impl.OK {
				wantNoReply(t, what, got, want)
			} else if got.Code != impl.OK {
				t.Errorf("%s: %v", what, got)
			}
			if plain := plainAsk(k, who, a).Code; plain != want {
				t.Errorf("%s: the test's own telling says %d; want %d", what, plain, want)
			}
		}
	}
}

// Whatever is asked for, a fault of the kernel comes first, then one of who, then one of the ask; all else is zero.
func TestAskKernelFaults(t *testing.T) {
	owner, good := label(t, "****"), kernel(t, standardKernel)
	faulty := faultyAsks(t)
	few := append(asks(t, "make - text 1111 5; read 2 0 9; write 2 0 1; drop 2; drop -; room 2 6; list -; list 9"), impl.Ask{}, faulty[9].ask, faulty[len(faulty)/2].ask)
	for _, f := range faultyKernels(t) {
		for n, a := range few {
			wantNoReply(t, fmt.Sprint(a, ": ", f.name), impl.AskKernel(f.kernel, []impl.Label{owner, {}, labelOf(2, 2, 2, 2)}[n%3], a), f.code)
		}
	}
	for _, f := range faultyLabels() {
		for _, a := range few {
			wantNoReply(t, fmt.Sprint(a, " by ", f.name), impl.AskKernel(good, f.label, a), f.code)
		}
	}
	for _, f := range faulty {
		for _, who := range []impl.Label{owner, label(t, "1111"), label(t, "0000")} {
			for _, k := range []impl.Kernel{good, impl.NewKernel(label(t, "1111"), 0).Kernel} {
				wantNoReply(t, f.name, impl.AskKernel(k, who, f.ask), f.code)
			}
		}
	}
}

func TestAskAllRows(t *testing.T) {
	k, who := kernel(t, "box -1 0 1111 50 1"), label(t, "1111")
	for _, row := range []struct {
		asks  string
		codes string
		after string
	}{
		{"list -", "0", "box -1 0 1111 50 1"}, {"list 1", "4", "box -1 0 1111 50 1"}, {"drop -", "1", "box -1 0 1111 50 1"},
		{"make - text 1111 5; write 1 0 7 8; read 1 1 9", "0 0 0", "box -1 0 1111 50 2; text 0 1 1111 5 7 8"},
		// What one leaves is what the next one is asked of.
		{"write 1 0 7; make - text 1111 5; write 1 0 7; write 1 1 8", "4 0 0 0", "box -1 0 1111 50 2; text 0 1 1111 5 7 8"},
		{"make - text 1111 50; make - text 1111 1; drop 1; make - text 1111 1; read 1 0 1", "0 7 0 0 4", "box -1 0 1111 50 3; text 0 2 1111 1"},
		{"make - box 1111 20; make 1 text 1111 20; make 1 text 1111 1; room 1 21; make 1 text 1111 1; room 1 20; room 1.2 0; room 1 20; drop 1.1; list 1", "0 0 7 0 0 7 0 0 0 0", "box -1 0 1111 50 2; box 0 1 1111 20 3; text 1 2 1111 0"},
		// One with a code turns nothing, wherever it stands.
		{"list 9; make - box 1311 9; make 1 text 1311 1; list 1; make - text 0000 1; write - 0 1; drop 1; make 1 text 1311 1", "4 0 6 6 6 1 0 4", "box -1 0 1111 50 2"},
		{"make - text 1111 4; write 1 0 1 2 3 4; write 1 3 9 9; write 1 4; room 1 3; write 1 2 5", "0 0 7 0 7 0", "box -1 0 1111 50 2; text 0 1 1111 4 1 2 5 4"},
	} {
		got := impl.AskAll(k, who, asks(t, row.asks))
		wantReply(t, row.asks, got, impl.AskResult{List: numbers(t, row.codes), Kernel: kernel(t, row.after)})
	}
	wrong := impl.AskAll(k, who, []impl.Ask{{}, ask(t, "make - text 1111 5"), {Kind: 6, N: 1}, {Kind: 6, Path: make([]int64, 7)}, {Kind: 6, Path: []int64{0}}, {Kind: 1, What: 1}, ask(t, "list -")})
	wantReply(t, "some with a fault", wrong, impl.AskResult{List: []int64{impl.ErrForm, impl.OK, impl.ErrForm, impl.ErrMany, impl.ErrRange, impl.ErrMany, impl.OK}, Kernel: kernel(t, "box -1 0 1111 50 2; text 0 1 1111 5")})
}

func TestAskAllOfHowMany(t *testing.T) {
	k, who := kernel(t, standardKernel), label(t, "1111")
	for many := range 24 {
		for _, a := range []impl.Ask{ask(t, "list -"), ask(t, "make - text 1111 1"), ask(t, "drop 2"), ask(t, "list 9"), {}} {
			list := slices.Repeat([]impl.Ask{a}, many)
			got := wantAllOf(t, k, who, list)
			if many > 20 {
				wantNoReply(t, fmt.Sprint(many, " asks"), got, impl.ErrMany)
			} else if got.Code != impl.OK || len(got.List) != many || got.Value != 0 {
				t.Errorf("%d asks: %v", many, got)
			}
		}
	}
	for _, none := range [][]impl.Ask{nil, {}} {
		wantReply(t, "no asks", impl.AskAll(k, who, none), impl.AskResult{Kernel: k})
	}
	wantNoReply(t, "very many", impl.AskAll(k, who, make([]impl.Ask, 5000)), impl.ErrMany)
}

// The kernel's fault is told ahead of that of who, that ahead of how many there are, and that whatever the asks are.
func TestAskAllFaults(t *testing.T) {
	good, owner := kernel(t, standardKernel), label(t, "****")
	lists := [][]impl.Ask{nil, {ask(t, "list -")}, make([]impl.Ask, 20), make([]impl.Ask, 21), slices.Repeat(asks(t, "list -"), 21)}
	for _, f := range faultyKernels(t) {
		for n, list := range lists {
			wantNoReply(t, fmt.Sprint(len(list), " asks: ", f.name), impl.AskAll(f.kernel, []impl.Label{owner, {}}[n%2], list), f.code)
			wantNoReply(t, fmt.Sprint(len(list), " asks by nobody: ", f.name), impl.AskAll(f.kernel, labelOf(9, 9, 9, 9), list), f.code)
		}
	}
	for _, f := range faultyLabels() {
		for _, list := range lists {
			wantNoReply(t, fmt.Sprint(len(list), " asks by ", f.name), impl.AskAll(good, f.label, list), f.code)
		}
	}
}

// Asks of a list are what they are one by one, and a list that is cut is in two parts what it is in one.
func TestAskAllIsOneByOne(t *testing.T) {
	source := rand.New(rand.NewSource(133))
	for range 1500 {
		k, who := anyKernel(source, 1+source.Intn(12)), anyWho(source)
		now, list, codes := k, []impl.Ask{}, []int64{}
		for range source.Intn(21) {
			a := anyAsk(source, now)
			if source.Intn(12) == 0 {
				spoilAsk(&a, source)
			}
			one := impl.AskKernel(now, who, a)
			list, codes = append(list, a), append(codes, one.Code)
			if one.Code == impl.OK {
				now = one.Kernel
			}
		}
		got := wantAllOf(t, k, who, list)
		wantReply(t, fmt.Sprintf("%v by %v of %v", list, who.Levels, k), got, impl.AskResult{List: codes, Kernel: now})
		cut := source.Intn(len(list) + 1)
		first := impl.AskAll(k, who, list[:cut])
		second := impl.AskAll(first.Kernel, who, list[cut:])
		if !slices.Equal(slices.Concat(first.List, second.List), got.List) || !sameKernel(second.Kernel, got.Kernel) {
			t.Errorf("%v, cut at %d: %v and %v; want %v", list, cut, first, second, got)
		}
		if t.Failed() {
			return
		}
	}
}

// Walks of asks by several: each one leaves nothing wrong behind, and what was dropped is never found again, whatever is made since.
func TestAskWalks(t *testing.T) {
	source, codes := rand.New(rand.NewSource(134)), map[string]int{}
	for range 700 {
		k, gone := anyKernel(source, 1+source.Intn(12)), map[string][]int64{}
		some := []impl.Label{anyWho(source), anyWho(source), label(t, "****"), k.Objects[0].Label}
		for range 40 {
			a := anyAsk(source, k)
			got := wantAskOf(t, k, some[source.Intn(len(some))], a)
			codes[fmt.Sprint(a.Kind, " ", got.Code)]++
			if got.Code != impl.OK {
				continue
			}
			if a.Kind == 4 {
				for _, p := range plainPaths(k) {
					if isAtOrIn(p, a.Path) {
						gone[fmt.Sprint(p)] = p
					}
				}
			}
			k = got.Kernel
			for _, p := range gone {
				wantNoInt(t, "what was dropped", impl.FindObject(k, p), impl.ErrNone)
			}
		}
		if t.Failed() {
			return
		}
	}
	for _, kind := range []int{1, 2, 3, 4, 5, 6} {
		for _, code := range []int64{impl.OK, impl.ErrNone, impl.ErrForm, impl.ErrDenied} {
			if codes[fmt.Sprint(kind, " ", code)] < 50 {
				t.Errorf("too few asks of kind %d with code %d: %v", kind, code, codes)
			}
		}
	}
	for _, kind := range []int{1, 3, 5} {
		if codes[fmt.Sprint(kind, " ", impl.ErrFull)] < 50 {
			t.Errorf("too few asks of kind %d that are full: %v", kind, codes)
		}
	}
}
