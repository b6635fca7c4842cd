package tests

// Promise 7: a word that was stored is there with the mark that it had, and words that were marked anew have nothing in
// them.

import (
	"fmt"
	"math"
	"slices"
	"testing"

	"loop.example/g00530/impl"
)

func TestMemoryBounds(t *testing.T) {
	if impl.MaxMemory != 32 {
		t.Error(impl.MaxMemory)
	}
}

func TestMemoryFaultOfGoodOnes(t *testing.T) {
	for _, m := range append(goodMemories(t), impl.Memory{}) {
		if code := impl.MemoryFault(m, 6); code != impl.OK {
			t.Errorf("%s: code %d", memoryTold(m), code)
		}
	}
}

// Every number around the bounds of a word and of how many tags there are, with each of the others.
func TestMemoryFaultOfOneWord(t *testing.T) {
	for tags := int64(-2); tags <= 9; tags++ {
		for tag := int64(-2); tag <= 9; tag++ {
			for _, value := range []int64{-65536, -2, -1, 0, 1, 2, 255, 256, 32767, 32768, 65534, 65535, 65536, 65537, 131071} {
				want := int64(impl.ErrRange)
				if tags >= 0 && tags <= 6 && tag >= 0 && tag <= tags && value >= 0 && value <= 65535 {
					want = impl.OK
				}
				m := impl.Memory{Words: []impl.Word{{Value: value, Tag: tag}}}
				if code := impl.MemoryFault(m, tags); code != want {
					t.Errorf("%s for %d tags: code %d; want %d", memoryTold(m), tags, code, want)
				}
			}
		}
	}
}

// The monitor's own tag is there where there are no others, and a tag is a fault where there are too few for it.
func TestMemoryFaultBySoManyTags(t *testing.T) {
	for greatest := range int64(7) {
		for tags := range int64(7) {
			for place := range 32 {
				m := impl.Memory{Words: make([]impl.Word, 32)}
				m.Words[place].Tag = greatest
				want := int64(impl.OK)
				if greatest > tags {
					want = impl.ErrRange
				}
				if code := impl.MemoryFault(m, tags); code != want {
					t.Errorf("tag %d at %d for %d tags: code %d; want %d", greatest, place, tags, code, want)
				}
			}
		}
	}
}

// How many tags there are is asked ahead of how many words there are, and without any words, too.
func TestMemoryFaultOfNoSuchTags(t *testing.T) {
	for _, tags := range append(farNumbers(), -1, 7, 8) {
		for _, many := range []int{0, 1, 32, 33, 100} {
			right := impl.Memory{Words: make([]impl.Word, many)}
			wrong := impl.Memory{Words: slices.Repeat([]impl.Word{{Value: -1, Tag: -1}}, many)}
			if a, b := impl.MemoryFault(right, tags), impl.MemoryFault(wrong, tags); a != impl.ErrRange || b != impl.ErrRange {
				t.Errorf("%d words for %d tags: codes %d and %d; want ErrRange", many, tags, a, b)
			}
		}
	}
}

func TestMemoryFaultOfSoManyWords(t *testing.T) {
	for many := range 100 {
		for tags := range int64(7) {
			want := int64(impl.OK)
			if many > 32 {
				want = impl.ErrMany
			}
			if code := impl.MemoryFault(impl.Memory{Words: make([]impl.Word, many)}, tags); code != want {
				t.Errorf("%d words for %d tags: code %d; want %d", many, tags, code, want)
			}
		}
		want := int64(impl.OK)
		if many > 32 {
			want = impl.ErrMany
		}
		if code := impl.MemoryFault(longMemory(many), 6); code != want {
			t.Errorf("%d words that differ: code %d; want %d", many, code, want)
		}
	}
}

func TestMemoryFaultOfFaultyOnes(t *testing.T) {
	for _, f := range faultyMemories() {
		for tags := range int64(7) {
			if code := impl.MemoryFault(f.memory, tags); code != f.code {
				t.Errorf("%s for %d tags: code %d; want %d", f.name, tags, code, f.code)
			}
		}
	}
}

// How many words there are is asked ahead of every word.
func TestMemoryFaultOfSeveralFaults(t *testing.T) {
	for _, f := range manyFaultyWords() {
		for tags := range int64(7) {
			if code := impl.MemoryFault(f.memory, tags); code != f.code {
				t.Errorf("%s for %d tags: code %d; want %d", f.name, tags, code, f.code)
			}
		}
	}
}

// A wrong word is found wherever it stands, in memories of every length.
func TestMemoryFaultOfAWordAmongOthers(t *testing.T) {
	for many := 1; many <= 32; many++ {
		for place := range many {
			for _, wrong := range []impl.Word{{Value: -1, Tag: 1}, {Value: 65536, Tag: 1}, {Value: 1, Tag: -1}, {Value: 1, Tag: 7}} {
				m := longMemory(many)
				m.Words[place] = wrong
				if code := impl.MemoryFault(m, 6); code != impl.ErrRange {
					t.Errorf("%v at %d of %d: code %d; want ErrRange", wrong, place, many, code)
				}
			}
		}
	}
}

func TestLoadWordRows(t *testing.T) {
	m := memory(t, "1.1 65535.2 0.0 3.6")
	for at, want := range []impl.Word{{Value: 1, Tag: 1}, {Value: 65535, Tag: 2}, {}, {Value: 3, Tag: 6}} {
		wantWord(t, fmt.Sprint("at ", at), impl.LoadWord(m, int64(at)), want)
	}
	for _, at := range []int64{-1, 4, 5, 31, 32, 33} {
		wantNoWord(t, fmt.Sprint("at ", at), impl.LoadWord(m, at), impl.ErrRange)
	}
}

func TestLoadWordAtEachPlace(t *testing.T) {
	for many := range 33 {
		m := longMemory(many)
		for at := int64(-40); at <= 80; at++ {
			what := fmt.Sprintf("at %d of %d words", at, many)
			if at >= 0 && at < int64(many) {
				wantWord(t, what, impl.LoadWord(m, at), m.Words[at])
			} else {
				wantNoWord(t, what, impl.LoadWord(m, at), impl.ErrRange)
			}
		}
		for _, at := range farNumbers() {
			wantNoWord(t, fmt.Sprintf("at %d of %d words", at, many), impl.LoadWord(m, at), impl.ErrRange)
		}
	}
}

func TestStoreWordRows(t *testing.T) {
	for _, row := range []struct {
		before string
		at, v  int64
		after  string
	}{
		{"1.1 2.2 3.1", 1, 9, "1.1 9.2 3.1"},
		{"1.1 2.2 3.1", 0, 0, "0.1 2.2 3.1"},
		{"1.1 2.2 3.1", 2, 65535, "1.1 2.2 65535.1"},
		{"1.1 2.2 3.1", 2, 3, "1.1 2.2 3.1"},
		{"0.0", 0, 1, "1.0"},
		{"65535.6", 0, 65534, "65534.6"},
		{"5.0 5.0", 1, 6, "5.0 6.0"},
	} {
		what := fmt.Sprintf("store %d at %d of %q", row.v, row.at, row.before)
		wantMemory(t, what, impl.StoreWord(memory(t, row.before), row.at, row.v), memory(t, row.after))
	}
}

// What was stored is there with the tag that it had, and every other word is as it was.
func TestWordThatWasStored(t *testing.T) {
	for _, m := range goodMemories(t) {
		for at := range m.Words {
			for _, v := range []int64{0, 1, 2, 255, 256, 32767, 32768, 65534, 65535} {
				what := fmt.Sprintf("store %d at %d of %s", v, at, memoryTold(m))
				got := impl.StoreWord(m, int64(at), v)
				wantMemory(t, what, got, storedPlainly(m, int64(at), v))
				for place, was := range m.Words {
					want := was
					if place == at {
						want.Value = v
					}
					wantWord(t, fmt.Sprint(what, ", then load at ", place), impl.LoadWord(got.Memory, int64(place)), want)
				}
				if code := impl.MemoryFault(got.Memory, 6); code != impl.OK {
					t.Errorf("%s: the fault %d", what, code)
				}
			}
		}
	}
}

// Every value that a word can have, with every tag.
func TestStoreWordOfEachValue(t *testing.T) {
	m := memory(t, "0.0 1.1 2.2 3.3 4.4 5.5 65535.6")
	eachWord(func(v int64) {
		at := v % 7
		got := impl.LoadWord(impl.StoreWord(m, at, v).Memory, at)
		if got != (impl.WordResult{Word: impl.Word{Value: v, Tag: at}}) {
			t.Fatalf("store %d at %d, then load: %v", v, at, got)
		}
	})
}

// Where the place is none, or the value, alone and together.
func TestStoreWordOutOfBounds(t *testing.T) {
	for _, m := range goodMemories(t) {
		many := int64(len(m.Words))
		noPlaces := append(farNumbers(), -1, many, many+1, 2*many+1, 33, 65535)
		for _, at := range noPlaces {
			for _, v := range append(noWords(), 0, 1, 65535) {
				wantNoMemory(t, fmt.Sprintf("store %d at %d of %d words", v, at, many), impl.StoreWord(m, at, v), impl.ErrRange)
			}
		}
		for at := range many {
			for _, v := range noWords() {
				wantNoMemory(t, fmt.Sprintf("store %d at %d of %d words", v, at, many), impl.StoreWord(m, at, v), impl.ErrRange)
			}
		}
	}
}

// Storing twice is storing the last time, and storing what is there turns nothing.
func TestStoreWordAgain(t *testing.T) {
	for _, m := range goodMemories(t) {
		for at := range int64(len(m.Words)) {
			once := impl.StoreWord(m, at, 777)
			twice := impl.StoreWord(once.Memory, at, 65535)
			wantMemory(t, fmt.Sprint("stored twice at ", at), twice, storedPlainly(m, at, 65535))
			wantMemory(t, fmt.Sprint("stored back at ", at), impl.StoreWord(twice.Memory, at, m.Words[at].Value), m)
		}
	}
}

func TestRetagWordsRows(t *testing.T) {
	for _, row := range []struct {
		before       string
		from, n, tag int64
		after        string
	}{
		{"1.1 2.2 3.1", 1, 2, 3, "1.1 0.3 0.3"},
		{"1.1 2.2 3.1", 0, 3, 6, "0.6 0.6 0.6"},
		{"1.1 2.2 3.1", 0, 1, 1, "0.1 2.2 3.1"},
		{"1.1 2.2 3.1", 2, 1, 5, "1.1 2.2 0.5"},
		// The monitor's own tag is one, on words and to be marked with.
		{"1.1 2.2 3.1", 1, 1, 0, "1.1 0.0 3.1"},
		{"1.0 2.0 3.0", 0, 2, 0, "0.0 0.0 3.0"},
		{"1.0 2.0 3.0", 1, 2, 4, "1.0 0.4 0.4"},
		// Of nothing there is all, up to the place behind the last word.
		{"1.1 2.2 3.1", 0, 0, 3, "1.1 2.2 3.1"},
		{"1.1 2.2 3.1", 2, 0, 0, "1.1 2.2 3.1"},
		{"1.1 2.2 3.1", 3, 0, 6, "1.1 2.2 3.1"},
		{"", 0, 0, 0, ""},
		{"", 0, 0, 6, ""},
		{"7.6", 0, 1, 0, "0.0"},
		{"65535.6", 1, 0, 1, "65535.6"},
	} {
		what := fmt.Sprintf("retag %d from %d of %q with %d", row.n, row.from, row.before, row.tag)
		wantMemory(t, what, impl.RetagWords(memory(t, row.before), row.from, row.n, row.tag), memory(t, row.after))
	}
}

// Every range around the ends of memories of every length, with every tag and those beside: what is marked anew has
// nothing in it, all else is as it was.
func TestRetagWordsOfEachRange(t *testing.T) {
	for many := range int64(33) {
		m := longMemory(int(many))
		for from := int64(-2); from <= many+2; from++ {
			for n := int64(-2); n <= many+3; n++ {
				for tag := int64(-2); tag <= 8; tag++ {
					got := impl.RetagWords(m, from, n, tag)
					if from < 0 || n < 0 || from+n > many || tag < 0 || tag > 6 {
						if got.Code != impl.ErrRange || len(got.Memory.Words) != 0 {
							t.Errorf("retag %d from %d of %d words with %d: %v; want ErrRange and no words", n, from, many, tag, got)
						}
						continue
					}
					if want := retaggedPlainly(m, from, n, tag); got.Code != impl.OK || !slices.Equal(got.Memory.Words, want.Words) {
						t.Errorf("retag %d from %d of %d words with %d: code %d, %s; want %s", n, from, many, tag, got.Code, memoryTold(got.Memory), memoryTold(want))
					}
				}
			}
		}
	}
}

// No range reaches into memory because from and n together overflow, or cut to fewer bits would be right.
func TestRetagWordsFarFromTheBounds(t *testing.T) {
	far := append(farNumbers(), math.MaxInt64-31, math.MaxInt64-32, math.MinInt64+32, 1<<31, 1<<62, -1<<62, -1, 33, 65536, 1<<63-1-3)
	for _, m := range goodMemories(t) {
		many := int64(len(m.Words))
		for _, number := range far {
			for _, tag := range []int64{0, 1, 6, 7, -1} {
				for near := int64(-1); near <= many+1; near++ {
					wantNoMemory(t, fmt.Sprintf("retag %d from %d of %d words with %d", number, near, many, tag), impl.RetagWords(m, near, number, tag), impl.ErrRange)
					wantNoMemory(t, fmt.Sprintf("retag %d from %d of %d words with %d", near, number, many, tag), impl.RetagWords(m, number, near, tag), impl.ErrRange)
				}
				for _, other := range far {
					wantNoMemory(t, fmt.Sprintf("retag %d from %d of %d words with %d", other, number, many, tag), impl.RetagWords(m, number, other, tag), impl.ErrRange)
				}
			}
		}
	}
}

// A tag that is none is told for every range, one of nothing too.
func TestRetagWordsWithNoTag(t *testing.T) {
	for _, m := range goodMemories(t) {
		many := int64(len(m.Words))
		for _, tag := range append(farNumbers(), -1, 7, 8, 256, 65536) {
			for from := range many + 1 {
				for n := range many - from + 1 {
					wantNoMemory(t, fmt.Sprintf("retag %d from %d of %d words with %d", n, from, many, tag), impl.RetagWords(m, from, n, tag), impl.ErrRange)
				}
			}
		}
	}
}

// What was in words that were marked anew is not told by them: memories that differ there alone are then the same.
func TestRetaggedWordsTellNothing(t *testing.T) {
	for many := int64(1); many <= 32; many++ {
		for from := range many {
			for _, n := range []int64{1, 2, many - from} {
				if from+n > many {
					continue
				}
				a, b := longMemory(int(many)), longMemory(int(many))
				for place := from; place < from+n; place++ {
					b.Words[place] = impl.Word{Value: 65535 - a.Words[place].Value, Tag: 6 - a.Words[place].Tag}
				}
				first, second := impl.RetagWords(a, from, n, 2), impl.RetagWords(b, from, n, 2)
				if first.Code != impl.OK || second.Code != impl.OK || !impl.SameMemories(first.Memory, second.Memory) {
					t.Errorf("%d words from %d of %d: %v and %v", n, from, many, first, second)
				}
			}
		}
	}
}

// What is stored in a word that was marked anew is there with the new tag, and what was stored is gone once it is marked.
func TestStoredAndRetagged(t *testing.T) {
	m := longMemory(32)
	for at := range int64(32) {
		for tag := range int64(7) {
			anew := impl.RetagWords(m, at, 1, tag).Memory
			wantWord(t, "marked anew", impl.LoadWord(anew, at), impl.Word{Tag: tag})
			stored := impl.StoreWord(anew, at, 4613).Memory
			wantWord(t, "marked anew, then stored", impl.LoadWord(stored, at), impl.Word{Value: 4613, Tag: tag})
			wantWord(t, "stored, then marked as it is", impl.LoadWord(impl.RetagWords(stored, at, 1, tag).Memory, at), impl.Word{Tag: tag})
		}
	}
}

func countedPlainly(m impl.Memory, tag int64) int64 {
	return int64(len(slices.DeleteFunc(slices.Clone(m.Words), func(w impl.Word) bool { return w.Tag != tag })))
}

func TestCountTagRows(t *testing.T) {
	m := memory(t, "1.1 2.2 3.1 0.0 5.0 1.0 9.6")
	for tag, want := range []int64{3, 2, 1, 0, 0, 0, 1} {
		wantInt(t, fmt.Sprint("tag ", tag), impl.CountTag(m, int64(tag)), want)
	}
}

// The monitor's own tag is counted as others are; what is no tag no word has.
func TestCountTagOfEachTag(t *testing.T) {
	for _, m := range goodMemories(t) {
		sum := int64(0)
		for tag := range int64(7) {
			want := countedPlainly(m, tag)
			wantInt(t, fmt.Sprintf("tag %d of %s", tag, memoryTold(m)), impl.CountTag(m, tag), want)
			sum += impl.CountTag(m, tag).Value
		}
		if sum != int64(len(m.Words)) {
			t.Errorf("%s: all tags together %d", memoryTold(m), sum)
		}
		for _, tag := range append(farNumbers(), -1, 7, 8, 256, 65535, 65536) {
			wantInt(t, fmt.Sprintf("tag %d of %s", tag, memoryTold(m)), impl.CountTag(m, tag), 0)
		}
	}
}

func TestCountTagOfSoManyWords(t *testing.T) {
	for many := range 33 {
		for tag := range int64(7) {
			m := impl.Memory{Words: slices.Repeat([]impl.Word{{Value: 7, Tag: tag}}, many)}
			wantInt(t, fmt.Sprint(many, " words of tag ", tag), impl.CountTag(m, tag), int64(many))
			wantInt(t, fmt.Sprint(many, " words of tag ", tag, ", asked for the next"), impl.CountTag(m, (tag+1)%7), 0)
		}
	}
}

// A store turns no tag, and words that are marked anew are counted as what they are now.
func TestCountTagBehindTurns(t *testing.T) {
	m := longMemory(32)
	for from := range int64(32) {
		n := min(5, 32-from)
		stored, anew := impl.StoreWord(m, from, 1).Memory, impl.RetagWords(m, from, n, 3).Memory
		for tag := range int64(7) {
			wantInt(t, fmt.Sprint("stored, tag ", tag), impl.CountTag(stored, tag), countedPlainly(m, tag))
			left := countedPlainly(m, tag) - countedPlainly(impl.Memory{Words: m.Words[from : from+n]}, tag)
			if tag == 3 {
				left += n
			}
			wantInt(t, fmt.Sprint("marked anew, tag ", tag), impl.CountTag(anew, tag), left)
		}
	}
}

// wantSame asks both ways.
func wantSame(t *testing.T, what string, a, b impl.Memory, want bool) {
	t.Helper()
	if impl.SameMemories(a, b) != want || impl.SameMemories(b, a) != want {
		t.Errorf("%s: same %v and %v; want %v", what, impl.SameMemories(a, b), impl.SameMemories(b, a), want)
	}
}

func TestSameMemoriesOfGoodOnes(t *testing.T) {
	list := goodMemories(t)
	for _, a := range list {
		for _, b := range list {
			wantSame(t, memoryTold(a)+" and "+memoryTold(b), a, b, memoryTold(a) == memoryTold(b))
		}
	}
}

// One number that differs, wherever it stands, and by whatever, is enough.
func TestSameMemoriesOfOneThatDiffers(t *testing.T) {
	for many := 1; many <= 40; many++ {
		for place := range many {
			for _, by := range []int64{1, -1, 65536, 1 << 32, math.MinInt64} {
				a, value, tag := longMemory(many), longMemory(many), longMemory(many)
				value.Words[place].Value += by
				tag.Words[place].Tag += by
				what := fmt.Sprintf("%d words, at %d %d more", many, place, by)
				wantSame(t, what+" as value", a, value, false)
				wantSame(t, what+" as tag", a, tag, false)
				wantSame(t, what+" in value and tag", value, tag, false)
			}
		}
	}
}

// Value and tag are not mixed up, nor words in another order.
func TestSameMemoriesOfAlikeNumbers(t *testing.T) {
	wantSame(t, "turned round", memory(t, "1.2"), memory(t, "2.1"), false)
	wantSame(t, "in another order", memory(t, "1.1 2.2"), memory(t, "2.2 1.1"), false)
	wantSame(t, "tags swapped", memory(t, "1.1 2.2"), memory(t, "1.2 2.1"), false)
	wantSame(t, "one twice", memory(t, "1.1 1.1 2.2"), memory(t, "1.1 2.2 2.2"), false)
	wantSame(t, "the same sum", memory(t, "3.1 1.3"), memory(t, "2.2 2.2"), false)
}

// One that goes on where the other one ends is another one, also where it goes on with nothing in its words.
func TestSameMemoriesOfSoManyWords(t *testing.T) {
	for many := range 40 {
		for other := range 40 {
			wantSame(t, fmt.Sprint(many, " and ", other, " words"), longMemory(many), longMemory(other), many == other)
			wantSame(t, fmt.Sprint(many, " and ", other, " empty words"), impl.Memory{Words: make([]impl.Word, many)}, impl.Memory{Words: make([]impl.Word, other)}, many == other)
		}
	}
}

// No fault is asked: what is wrong in both alike is the same, and what differs is not, however wrong.
func TestSameMemoriesOfFaultyOnes(t *testing.T) {
	for _, f := range allFaultyMemories() {
		same := impl.Memory{Words: slices.Clone(f.memory.Words)}
		wantSame(t, f.name, f.memory, same, true)
		same.Words[len(same.Words)-1].Value ^= 1
		wantSame(t, f.name+" with the last value turned", f.memory, same, false)
		wantSame(t, f.name+" and nothing", f.memory, impl.Memory{}, false)
	}
}
