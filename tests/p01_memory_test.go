package tests

// Promise 1, for marked memory: every function answers at every argument, ends, and changes none; what it answers is new
// memory; it hangs on the arguments alone.

import (
	"fmt"
	"math"
	"math/rand"
	"slices"
	"strings"
	"testing"

	"loop.example/g00530/impl"
)

// A fault of the memory is told whatever else is asked, be that right or wrong, and nothing else is told then.
func TestMemoryFaultsComeFirst(t *testing.T) {
	numbers := []int64{0, 1, -1, 7, 33, math.MinInt64, math.MaxInt64}
	for _, f := range allFaultyMemories() {
		for _, number := range numbers {
			what := fmt.Sprintf("%s with %d", f.name, number)
			wantNoWord(t, "LoadWord: "+what, impl.LoadWord(f.memory, number), f.code)
			wantNoInt(t, "CountTag: "+what, impl.CountTag(f.memory, number), f.code)
			for _, other := range numbers {
				wantNoMemory(t, fmt.Sprintf("StoreWord: %s and %d", what, other), impl.StoreWord(f.memory, number, other), f.code)
				for _, tag := range []int64{0, 6, 7, -1} {
					wantNoMemory(t, fmt.Sprintf("RetagWords: %s, %d and %d", what, other, tag), impl.RetagWords(f.memory, number, other, tag), f.code)
				}
			}
		}
	}
}

// The others ask for MaxTags: a word of tag 6 is right to them, one of tag 7 is not.
func TestMemoryFaultsForMaxTags(t *testing.T) {
	right, wrong := memory(t, "1.0 2.6 3.1"), memory(t, "1.0 2.7 3.1")
	wantWord(t, "LoadWord", impl.LoadWord(right, 1), impl.Word{Value: 2, Tag: 6})
	wantMemory(t, "StoreWord", impl.StoreWord(right, 1, 9), memory(t, "1.0 9.6 3.1"))
	wantMemory(t, "RetagWords", impl.RetagWords(right, 0, 1, 6), memory(t, "0.6 2.6 3.1"))
	wantInt(t, "CountTag", impl.CountTag(right, 6), 1)
	wantNoWord(t, "LoadWord", impl.LoadWord(wrong, 0), impl.ErrRange)
	wantNoMemory(t, "StoreWord", impl.StoreWord(wrong, 0, 9), impl.ErrRange)
	wantNoMemory(t, "RetagWords", impl.RetagWords(wrong, 1, 1, 6), impl.ErrRange)
	wantNoInt(t, "CountTag", impl.CountTag(wrong, 7), impl.ErrRange)
}

// askedOfMemory are what memoryAnswers asks with as place, value, how many and tag.
var askedOfMemory = []int64{-1, 0, 1, 2, 6, 7, 31, 32, 65535, 65536, math.MinInt64, math.MaxInt64}

// memoryAnswers tells all that the functions answer for two memories.
func memoryAnswers(m, other impl.Memory) string {
	told := []string{fmt.Sprint(impl.SameMemories(m, other), impl.SameMemories(other, m), impl.SameMemories(m, m))}
	tell := func(got impl.MemoryResult) {
		told = append(told, fmt.Sprint(got.Code, " ", memoryTold(got.Memory)))
	}
	for _, number := range askedOfMemory {
		told = append(told, fmt.Sprint(impl.MemoryFault(m, number), impl.LoadWord(m, number), impl.CountTag(m, number)))
		for _, second := range askedOfMemory {
			tell(impl.StoreWord(m, number, second))
			for _, tag := range []int64{-1, 0, 6, 7} {
				tell(impl.RetagWords(m, number, second, tag))
			}
		}
	}
	return strings.Join(told, "; ")
}

func TestMemoryNilIsEmpty(t *testing.T) {
	none, empty := impl.Memory{}, impl.Memory{Words: []impl.Word{}}
	for _, other := range append(manyMemories(t), none, empty) {
		if a, b := memoryAnswers(none, other), memoryAnswers(empty, other); a != b {
			t.Errorf("without a list %s, with an empty one %s", a, b)
		}
	}
	wantSame(t, "nil and empty", none, empty, true)
	wantSame(t, "nil and nil", none, none, true)
	for name, m := range map[string]impl.Memory{"nil": none, "empty": empty} {
		wantMemory(t, name, impl.RetagWords(m, 0, 0, 1), none)
		wantNoMemory(t, name, impl.StoreWord(m, 0, 0), impl.ErrRange)
		wantNoWord(t, name, impl.LoadWord(m, 0), impl.ErrRange)
		wantInt(t, name, impl.CountTag(m, 0), 0)
	}
}

// roomyMemory has its words in memory that goes on behind them, where a careless append or store would be seen.
func roomyMemory(m impl.Memory) (impl.Memory, []impl.Word) {
	behind := []impl.Word{{Value: 1, Tag: 1}, {Value: 77777, Tag: 78}, {Value: -1, Tag: -1}}
	whole := append(slices.Clone(m.Words), behind...)
	return impl.Memory{Words: whole[:len(m.Words)]}, whole
}

// manyMemories are right ones, and wrong ones of some kinds.
func manyMemories(t *testing.T) []impl.Memory {
	t.Helper()
	list := append(goodMemories(t), longMemory(33), longMemory(40))
	for _, wrong := range faultyWords() {
		list = append(list, impl.Memory{Words: []impl.Word{{Value: 5, Tag: 1}, wrong, {Value: 6, Tag: 2}}})
	}
	return list
}

func TestMemoryArgumentsStay(t *testing.T) {
	for _, given := range manyMemories(t) {
		for _, beside := range []impl.Memory{given, longMemory(32), {}} {
			m, whole := roomyMemory(given)
			other, otherWhole := roomyMemory(beside)
			was, otherWas := slices.Clone(whole), slices.Clone(otherWhole)
			memoryAnswers(m, other)
			if !slices.Equal(whole, was) || !slices.Equal(otherWhole, otherWas) {
				t.Errorf("%v, or %v became %v, %v", was, otherWas, whole, otherWhole)
			}
		}
	}
}

// Every range and every place of a memory, and what lies behind its end.
func TestMemoryArgumentsStayAtEachPlace(t *testing.T) {
	m, whole := roomyMemory(longMemory(29))
	was := slices.Clone(whole)
	for from := int64(-1); from <= 32; from++ {
		impl.LoadWord(m, from)
		impl.StoreWord(m, from, 4613)
		for n := int64(0); n <= 32; n++ {
			impl.RetagWords(m, from, n, 5)
		}
		if !slices.Equal(whole, was) {
			t.Fatalf("from %d on: %v became %v", from, was, whole)
		}
	}
}

// What lies behind the end of a list is no part of it: the answers are those of a list that ends there.
func TestMemoryAnswersHangOnNoCapacity(t *testing.T) {
	for _, given := range manyMemories(t) {
		m, _ := roomyMemory(given)
		tight := impl.Memory{Words: slices.Clip(slices.Clone(given.Words))}
		if a, b := memoryAnswers(m, tight), memoryAnswers(tight, m); a != b {
			t.Errorf("%s: with memory behind it %s, else %s", memoryTold(given), a, b)
		}
	}
}

// overwriteMemory turns all of the memory of a memory, what lies behind its end too.
func overwriteMemory(m impl.Memory) {
	whole := m.Words[:cap(m.Words)]
	for place := range whole {
		whole[place] = impl.Word{Value: 97, Tag: 98}
	}
}

// memoryCalls are the calls that answer a memory: what turns nothing, too.
func memoryCalls(m impl.Memory) map[string]func() impl.MemoryResult {
	calls := map[string]func() impl.MemoryResult{}
	many := int64(len(m.Words))
	for at, w := range m.Words {
		for _, v := range []int64{w.Value, 4613} {
			calls[fmt.Sprint("StoreWord ", at, v)] = func() impl.MemoryResult { return impl.StoreWord(m, int64(at), v) }
		}
	}
	for _, asked := range [][2]int64{{0, 0}, {many, 0}, {0, many}, {many / 2, many - many/2}, {0, min(1, many)}} {
		for _, tag := range []int64{0, 1, 6} {
			calls[fmt.Sprint("RetagWords ", asked, tag)] = func() impl.MemoryResult { return impl.RetagWords(m, asked[0], asked[1], tag) }
		}
	}
	return calls
}

func TestMemoryAnswersAreNewMemory(t *testing.T) {
	for _, given := range goodMemories(t) {
		m, whole := roomyMemory(given)
		was := slices.Clone(whole)
		for name, call := range memoryCalls(m) {
			got := call()
			if got.Code != impl.OK {
				t.Fatalf("%s of %s: code %d", name, memoryTold(given), got.Code)
			}
			overwriteMemory(got.Memory)
			if !slices.Equal(whole, was) {
				t.Fatalf("%s: an answer shares memory with %s: %v, and was %v", name, memoryTold(given), whole, was)
			}
		}
	}
}

// An answer stays as it is when what was handed in is turned afterwards.
func TestMemoryAnswersStay(t *testing.T) {
	for _, given := range goodMemories(t) {
		for name := range memoryCalls(given) {
			m, whole := roomyMemory(given)
			got := memoryCalls(m)[name]()
			was := memoryTold(got.Memory)
			overwriteMemory(impl.Memory{Words: whole})
			if memoryTold(got.Memory) != was {
				t.Errorf("%s of %s: the answer became %s", name, memoryTold(given), memoryTold(got.Memory))
			}
		}
	}
}

func TestMemoryAnswersAreApart(t *testing.T) {
	for _, m := range goodMemories(t) {
		for name, call := range memoryCalls(m) {
			first, second := call(), call()
			was := memoryTold(second.Memory)
			overwriteMemory(first.Memory)
			if memoryTold(second.Memory) != was || memoryTold(call().Memory) != was {
				t.Errorf("%s of %s: an answer hangs on another one", name, memoryTold(m))
			}
		}
	}
}

// What is done with a memory that was answered does not turn another one that was answered from it.
func TestMemoryAnswersBranch(t *testing.T) {
	m := impl.RetagWords(memory(t, "1.1 2.2 3.1"), 1, 1, 4).Memory
	a, b := impl.StoreWord(m, 1, 5), impl.StoreWord(m, 1, 6)
	nothing := impl.RetagWords(m, 3, 0, 6)
	c := impl.StoreWord(nothing.Memory, 0, 7)
	wantMemory(t, "the first", a, memory(t, "1.1 5.4 3.1"))
	wantMemory(t, "the second", b, memory(t, "1.1 6.4 3.1"))
	wantMemory(t, "nothing marked anew", nothing, memory(t, "1.1 0.4 3.1"))
	wantMemory(t, "nothing marked anew, then stored", c, memory(t, "7.1 0.4 3.1"))
	if memoryTold(m) != "1.1 0.4 3.1" {
		t.Error(memoryTold(m))
	}
}

// Whatever numbers come in, each call is answered: by a code and nothing else, or by what is so.
func TestMemoryFunctionsAnswerAlways(t *testing.T) {
	source := rand.New(rand.NewSource(6))
	number := func() int64 {
		return int64(source.Uint64()) >> source.Intn(64)
	}
	for range 50000 {
		words := make([]impl.Word, source.Intn(36))
		for place := range words {
			words[place] = impl.Word{Value: source.Int63n(65536), Tag: source.Int63n(7)}
		}
		if len(words) > 0 && source.Intn(8) == 0 {
			words[source.Intn(len(words))] = impl.Word{Value: number(), Tag: number()}
		}
		m := impl.Memory{Words: words}
		code := impl.MemoryFault(m, 6)
		at, v, tag := number(), number(), number()
		loaded, stored, anew, counted := impl.LoadWord(m, at), impl.StoreWord(m, at, v), impl.RetagWords(m, at, v, tag), impl.CountTag(m, tag)
		if code != impl.OK && (loaded.Code != code || stored.Code != code || anew.Code != code || counted.Code != code) {
			t.Fatalf("%s: the fault %d, and %v, %v, %v, %v", memoryTold(m), code, loaded, stored, anew, counted)
		}
		if code == impl.OK {
			wantPlainAnswers(t, m, at, v, tag)
		}
		impl.MemoryFault(m, number())
		impl.SameMemories(m, stored.Memory)
	}
}

// wantPlainAnswers holds what is answered for a memory without a fault against what is told plainly.
func wantPlainAnswers(t *testing.T, m impl.Memory, at, v, tag int64) {
	t.Helper()
	many := int64(len(m.Words))
	what := fmt.Sprintf("%d, %d, %d of %d words", at, v, tag, many)
	isPlace, isValue, isTag := at >= 0 && at < many, v >= 0 && v <= 65535, tag >= 0 && tag <= 6
	if isPlace {
		wantWord(t, what, impl.LoadWord(m, at), m.Words[at])
	} else {
		wantNoWord(t, what, impl.LoadWord(m, at), impl.ErrRange)
	}
	if isPlace && isValue {
		wantMemory(t, what, impl.StoreWord(m, at, v), storedPlainly(m, at, v))
	} else {
		wantNoMemory(t, what, impl.StoreWord(m, at, v), impl.ErrRange)
	}
	if at >= 0 && at <= many && v >= 0 && v <= many && at+v <= many && isTag {
		wantMemory(t, what, impl.RetagWords(m, at, v, tag), retaggedPlainly(m, at, v, tag))
	} else {
		wantNoMemory(t, what, impl.RetagWords(m, at, v, tag), impl.ErrRange)
	}
	wantInt(t, what, impl.CountTag(m, tag), countedPlainly(m, tag))
}

func TestMemoryAnswersHangOnArgumentsAlone(t *testing.T) {
	some, full, none := memory(t, "1.1 2.2 3.1"), longMemory(32), impl.Memory{}
	answers := func() string {
		return memoryAnswers(some, full) + memoryAnswers(full, some) + memoryAnswers(none, some)
	}
	was := answers()
	for _, other := range manyMemories(t) {
		memoryAnswers(other, some)
		memoryAnswers(full, other)
		if got := answers(); got != was {
			t.Fatalf("behind calls with %s the answers are %s, and were %s", memoryTold(other), got, was)
		}
	}
}
