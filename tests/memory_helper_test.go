package tests

import (
	"fmt"
	"slices"
	"strconv"
	"strings"
	"testing"

	"loop.example/g00530/impl"
)

// memory reads words, each a value and a tag: "9.2 65535.0".
func memory(t *testing.T, text string) impl.Memory {
	t.Helper()
	words := []impl.Word{}
	for _, told := range strings.Fields(text) {
		value, tag, found := strings.Cut(told, ".")
		first, wrong := strconv.ParseInt(value, 10, 64)
		second, bad := strconv.ParseInt(tag, 10, 64)
		if !found || wrong != nil || bad != nil {
			t.Fatalf("the test's own memory %q has the word %q", text, told)
		}
		words = append(words, impl.Word{Value: first, Tag: second})
	}
	return impl.Memory{Words: words}
}

// longMemory is so many words, no two of them alike and none with nothing in it; every tag from 0 on comes up among 7 words.
func longMemory(many int) impl.Memory {
	words := []impl.Word{}
	for place := range int64(many) {
		words = append(words, impl.Word{Value: (1 + 2053*place) % 65536, Tag: 3 * place % 7})
	}
	return impl.Memory{Words: words}
}

func goodMemories(t *testing.T) []impl.Memory {
	t.Helper()
	list := []impl.Memory{}
	for _, text := range []string{"", "0.0", "65535.6", "0.6", "65535.0", "1.1 2.2 3.1", "1.0 2.0 3.0", "7.1 7.1 7.1 7.1", "0.3 65535.3 1.2 65534.1"} {
		list = append(list, memory(t, text))
	}
	for _, many := range []int{1, 2, 7, 31, 32} {
		list = append(list, longMemory(many), impl.Memory{Words: make([]impl.Word, many)}, impl.Memory{Words: slices.Repeat([]impl.Word{{Value: 65535, Tag: 6}}, many)})
	}
	return list
}

// faultyWords have a number that leaves its bounds, whatever how many tags there are.
func faultyWords() []impl.Word {
	list := []impl.Word{{Value: 65536}, {Value: 65537, Tag: 6}, {Tag: 7}, {Value: 65535, Tag: 8}, {Value: -1, Tag: -1}, {Value: 65536, Tag: 7}, {Value: -1, Tag: 7}}
	for _, number := range append(farNumbers(), -1) {
		list = append(list, impl.Word{Value: number}, impl.Word{Value: number, Tag: 6}, impl.Word{Tag: number}, impl.Word{Value: 65535, Tag: number})
	}
	return list
}

type faultyMemory struct {
	name   string
	memory impl.Memory
	code   int64
}

// faultyMemories have the fault that is told for every number of tags from 0 to MaxTags: their right words are of tag 0.
func faultyMemories() []faultyMemory {
	list := []faultyMemory{}
	for _, wrong := range faultyWords() {
		for _, many := range []int{1, 2, 31, 32} {
			for _, place := range []int{0, many / 2, many - 1} {
				words := make([]impl.Word, many)
				words[place] = wrong
				list = append(list, faultyMemory{fmt.Sprintf("%v at %d of %d", wrong, place, many), impl.Memory{Words: words}, impl.ErrRange})
			}
		}
	}
	for _, many := range []int{33, 34, 64, 65, 256, 65536 + 1} {
		list = append(list, faultyMemory{fmt.Sprint(many, " words"), impl.Memory{Words: make([]impl.Word, many)}, impl.ErrMany})
	}
	return list
}

// manyFaultyWords have more faults than one; the code is that of the first: by how many there are, and then word by word.
func manyFaultyWords() []faultyMemory {
	list := []faultyMemory{}
	for _, wrong := range faultyWords() {
		for place := range 33 {
			words := make([]impl.Word, 33)
			words[place] = wrong
			list = append(list, faultyMemory{fmt.Sprintf("33 words, %v at %d", wrong, place), impl.Memory{Words: words}, impl.ErrMany})
		}
		for _, other := range faultyWords() {
			list = append(list, faultyMemory{fmt.Sprint(wrong, " and ", other), impl.Memory{Words: []impl.Word{{Value: 1}, wrong, {}, other}}, impl.ErrRange})
		}
		list = append(list, faultyMemory{fmt.Sprintf("32 times %v", wrong), impl.Memory{Words: slices.Repeat([]impl.Word{wrong}, 32)}, impl.ErrRange})
		list = append(list, faultyMemory{fmt.Sprintf("40 times %v", wrong), impl.Memory{Words: slices.Repeat([]impl.Word{wrong}, 40)}, impl.ErrMany})
	}
	return list
}

func allFaultyMemories() []faultyMemory {
	return append(faultyMemories(), manyFaultyWords()...)
}

// storedPlainly and retaggedPlainly say word by word what is there then.
func storedPlainly(m impl.Memory, at, v int64) impl.Memory {
	words := []impl.Word{}
	for place, w := range m.Words {
		if int64(place) == at {
			w = impl.Word{Value: v, Tag: w.Tag}
		}
		words = append(words, w)
	}
	return impl.Memory{Words: words}
}

func retaggedPlainly(m impl.Memory, from, n, tag int64) impl.Memory {
	words := []impl.Word{}
	for place, w := range m.Words {
		if int64(place) >= from && int64(place) < from+n {
			w = impl.Word{Value: 0, Tag: tag}
		}
		words = append(words, w)
	}
	return impl.Memory{Words: words}
}

func memoryTold(m impl.Memory) string {
	told := []string{}
	for _, w := range m.Words {
		told = append(told, fmt.Sprint(w.Value, ".", w.Tag))
	}
	return strings.Join(told, " ")
}

func wantWord(t *testing.T, what string, got impl.WordResult, want impl.Word) {
	t.Helper()
	if got != (impl.WordResult{Word: want}) {
		t.Errorf("%s: %v; want %v", what, got, want)
	}
}

// wantNoWord and wantNoMemory also ask that all but the code is zero.
func wantNoWord(t *testing.T, what string, got impl.WordResult, code int64) {
	t.Helper()
	if got != (impl.WordResult{Code: code}) {
		t.Errorf("%s: %v; want code %d and all else zero", what, got, code)
	}
}

func wantMemory(t *testing.T, what string, got impl.MemoryResult, want impl.Memory) {
	t.Helper()
	if got.Code != impl.OK || !slices.Equal(got.Memory.Words, want.Words) {
		t.Errorf("%s: code %d, memory %s; want %s", what, got.Code, memoryTold(got.Memory), memoryTold(want))
	}
}

func wantNoMemory(t *testing.T, what string, got impl.MemoryResult, code int64) {
	t.Helper()
	if got.Code != code || len(got.Memory.Words) != 0 {
		t.Errorf("%s: code %d, memory %s; want code %d and no words", what, got.Code, memoryTold(got.Memory), code)
	}
}
