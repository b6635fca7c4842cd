package tests

// Promise 1, for instructions: every function answers at every argument, ends, and changes none; what it answers is new
// memory; it hangs on the arguments alone.

import (
	"fmt"
	"math/rand"
	"slices"
	"strings"
	"testing"

	"loop.example/g00530/impl"
)

// isaAnswers tells all that the functions answer for an instruction, a word and lines.
func isaAnswers(i impl.Inst, w int64, lines []string) string {
	told := []string{fmt.Sprint(impl.InstFault(i), impl.DecodeWord(w), impl.EncodeInst(i), impl.InstText(i))}
	for _, text := range lines {
		told = append(told, fmt.Sprint(impl.ParseInst(text)))
	}
	assembled := impl.Assemble(lines)
	return strings.Join(append(told, fmt.Sprint(assembled.Code, assembled.List, len(assembled.List))), "; ")
}

// somePrograms are right and wrong lines: none, one, as many as may be, more, and wrong ones among them.
func somePrograms() [][]string {
	list := [][]string{nil, {""}, {"x"}, {"set 1 0 5"}, someTexts(), make([]string, 32), make([]string, 33)}
	for _, many := range []int{1, 2, 31, 32, 33, 40} {
		right, _ := program(many)
		wrong, _ := program(many)
		wrong[many-1] = "set 1 0 64"
		list = append(list, right, wrong)
	}
	for _, texts := range wrongTexts() {
		list = append(list, texts)
	}
	return list
}

func TestAssembleNilIsEmpty(t *testing.T) {
	for name, got := range map[string]impl.IntsResult{"nil": impl.Assemble(nil), "empty": impl.Assemble([]string{})} {
		if got.Code != impl.OK || len(got.List) != 0 {
			t.Errorf("%s: %v", name, got)
		}
	}
}

// roomyLines has lines in memory that goes on behind them.
func roomyLines(lines []string) ([]string, []string) {
	memory := append(slices.Clone(lines), "halt 0 0 0", "behind", "set 1 0 5")
	return memory[:len(lines)], memory
}

func TestAssembleArgumentsStay(t *testing.T) {
	for _, given := range somePrograms() {
		lines, memory := roomyLines(given)
		was := slices.Clone(memory)
		impl.Assemble(lines)
		if !slices.Equal(memory, was) {
			t.Errorf("%q became %q", was, memory)
		}
	}
}

// What lies behind the end of the lines is no part of them.
func TestAssembleHangsOnNoCapacity(t *testing.T) {
	for _, given := range somePrograms() {
		lines, _ := roomyLines(given)
		tight := slices.Clip(slices.Clone(given))
		if a, b := isaAnswers(impl.Inst{}, 0, lines), isaAnswers(impl.Inst{}, 0, tight); a != b {
			t.Errorf("%q: with memory behind it %s, else %s", given, a, b)
		}
	}
}

// overwriteInts turns all of a list's memory, what lies behind its end too.
func overwriteInts(list []int64) {
	whole := list[:cap(list)]
	for place := range whole {
		whole[place] = 77777
	}
}

func TestAssembleAnswersAreApart(t *testing.T) {
	for many := range 33 {
		lines, words := program(many)
		first, second := impl.Assemble(lines), impl.Assemble(lines)
		overwriteInts(first.List)
		if !slices.Equal(second.List, words) || !slices.Equal(impl.Assemble(lines).List, words) {
			t.Errorf("%d lines: an answer hangs on another one", many)
		}
	}
}

// Numbers far outside of every bound, and texts of any bytes, are answered: by a code, or by what is so.
func TestInstFunctionsAnswerAlways(t *testing.T) {
	source := rand.New(rand.NewSource(5))
	texts := allTexts()
	for range 20000 {
		i := impl.Inst{Op: int64(source.Uint64()), A: int64(source.Uint64()), B: int64(source.Uint64()), Imm: int64(source.Uint64())}
		wantInstFault(t, i, impl.ErrRange)
		if w := int64(source.Uint64()) | 1<<40; impl.DecodeWord(w) != (impl.InstResult{Code: impl.ErrRange}) {
			t.Errorf("DecodeWord %d: %v", w, impl.DecodeWord(w))
		}
		text := make([]byte, source.Intn(20))
		source.Read(text)
		wantParse(t, texts, string(text))
		for place := range text {
			text[place] = " 01567set"[source.Intn(9)]
		}
		wantParse(t, texts, string(text))
	}
}

func TestParseInstOfLongTexts(t *testing.T) {
	for _, piece := range []string{" ", "0", "9", "a", "set ", "bad1", "1 ", "\x00", "\xff", "\n", "set 1 0 5 "} {
		long := strings.Repeat(piece, 100000)
		for _, text := range []string{long, "set" + long, "set " + long, "set 1 0 " + long, "set 1 0 5" + long, long + "set 1 0 5"} {
			if got := impl.ParseInst(text); got != (impl.InstResult{Code: impl.ErrText}) {
				t.Errorf("%q often: %v", piece, got)
			}
			wantNoInts(t, "a long line", impl.Assemble([]string{"set 1 0 5", text}), impl.ErrText)
		}
	}
}

func TestInstAnswersHangOnArgumentsAlone(t *testing.T) {
	right, _ := program(32)
	answers := func() string {
		return isaAnswers(impl.Inst{Op: 1, A: 1, Imm: 5}, 4613, right) + isaAnswers(impl.Inst{Op: 16}, 65536, someTexts()) + isaAnswers(impl.Inst{Op: 15}, 0, nil)
	}
	was := answers()
	for place, lines := range somePrograms() {
		for _, i := range faultyInsts() {
			isaAnswers(i, i.Op, lines)
		}
		isaAnswers(inst(int64(place)*997), int64(place)*997, lines)
		if got := answers(); got != was {
			t.Fatalf("behind calls with %q the answers are %s, and were %s", lines, got, was)
		}
	}
}
