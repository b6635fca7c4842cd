package tests

import (
	"fmt"
	"math"
	"strings"
	"testing"

	"loop.example/g00530/impl"
)

// kindNames are the words of the kinds 0 to 15, as the document tells them.
func kindNames() []string {
	return strings.Fields("halt set add sub load store jump zero call out copy bad11 bad12 bad13 bad14 bad15")
}

// inst is the word as the document counts it together: 4096 times Op, 512 times A, 64 times B, and Imm.
func inst(w int64) impl.Inst {
	return impl.Inst{Op: w / 4096, A: w % 4096 / 512, B: w % 512 / 64, Imm: w % 64}
}

func eachWord(visit func(w int64)) {
	for w := range int64(65536) {
		visit(w)
	}
}

// plainText tells an instruction without a fault by a table of the test's own.
func plainText(i impl.Inst) string {
	return fmt.Sprint(kindNames()[i.Op], " ", i.A, " ", i.B, " ", i.Imm)
}

// allTexts has every text that is one of an instruction, so that whether any other text can be read is looked up, not read.
func allTexts() map[string]impl.Inst {
	texts := make(map[string]impl.Inst, 65536)
	names := kindNames()
	eachWord(func(w int64) {
		i := inst(w)
		texts[fmt.Sprint(names[i.Op], " ", i.A, " ", i.B, " ", i.Imm)] = i
	})
	return texts
}

// wantParse holds ParseInst against all texts that there are: it tells the instruction, or ErrText and all else zero.
func wantParse(t *testing.T, texts map[string]impl.Inst, text string) {
	t.Helper()
	want := impl.InstResult{Code: impl.ErrText}
	if i, known := texts[text]; known {
		want = impl.InstResult{Inst: i}
	}
	if got := impl.ParseInst(text); got != want {
		t.Errorf("ParseInst %q: %v; want %v", text, got, want)
	}
}

// someTexts are right ones of each kind, with the least and the greatest numbers and some between.
func someTexts() []string {
	return []string{
		"halt 0 0 0", "set 1 0 5", "add 7 7 63", "sub 0 7 10", "load 1 2 3", "store 7 0 9", "jump 0 0 31", "zero 3 0 62",
		"call 0 0 60", "out 5 6 7", "copy 2 1 0", "bad11 0 0 0", "bad12 1 0 0", "bad13 7 7 63", "bad14 4 5 6", "bad15 6 1 59",
	}
}

// wrongTexts are none of any instruction, by what is wrong with them.
func wrongTexts() map[string][]string {
	long := strings.Repeat("9", 400)
	return map[string][]string{
		"nothing":      {"", " ", "  ", "   ", "    ", "\x00", "\n"},
		"too few":      {"set", "set ", "set 1", "set 1 ", "set 1 0", "set 1 0 ", "1 0 5", " 1 0 5", "halt", "halt 0", "halt 0 0", "105", "set105"},
		"too many":     {"set 1 0 5 0", "set 1 0 5 ", "set 1 0 5 6 7", "set set 1 0 5", "set 1 0 5 set 1 0 5", "halt 0 0 0 0"},
		"blanks":       {" set 1 0 5", "  set 1 0 5", "set  1 0 5", "set 1  0 5", "set 1 0  5", "set 1 0 5  ", "set1 0 5", "set 10 5", "set 1 05", "s et 1 0 5", "set 1 0 1 5", "bad 11 1 0 5", "bad1 1 1 0 5"},
		"other blanks": {"set\t1\t0\t5", "set 1 0\t5", "set 1 0 5\n", "\nset 1 0 5", "set 1 0 5\r", "set 1 0 5\x00", "\x00set 1 0 5", "set\u00a01 0 5", "set 1 0\u20035", "\ufeffset 1 0 5", "set,1,0,5", "set 1, 0, 5"},
		"zeros ahead":  {"set 01 0 5", "set 1 00 5", "set 1 0 05", "set 1 0 005", "set 1 0 00", "set 00 0 0", "set 1 0 063", "bad011 1 0 5", "set 1 0 0000000000000000000000000005"},
		"signs":        {"set -1 0 5", "set +1 0 5", "set 1 -0 5", "set 1 +0 5", "set 1 0 -5", "set 1 0 +5", "set -0 -0 -0", "set 1 0 -", "set 1 0 +", "set - 0 5", "set 1 0 5-", "bad+11 1 0 5", "bad-11 1 0 5", "-set 1 0 5"},
		"no digits":    {"set a 0 5", "set 1 b 5", "set 1 0 x", "set 1 0 0x5", "set 1 0 5x", "set 1 0 x5", "set 1 0 5.", "set 1 0 5.0", "set 1 0 .5", "set 1 0 1e1", "set 1 0 1_0", "set 1 0 0b1", "set 1 0 /", "set 1 0 :", "set 1 0 ٥", "set 1 0 ５", "set r1 r0 5"},
		"bounds":       {"set 8 0 5", "set 1 8 5", "set 1 0 64", "set 9 0 5", "set 1 9 5", "set 10 0 5", "set 1 10 5", "set 1 0 65", "set 1 0 99", "set 63 0 5", "set 1 63 5", "set 1 0 100", "set 1 0 630", "set 8 8 64", "halt 8 0 0", "bad11 8 0 0", "bad15 0 8 0", "bad15 0 0 64", "copy 0 0 65535"},
		"many digits": {
			"set 1 0 256", "set 1 0 257", "set 1 0 65536", "set 1 0 65541", "set 1 0 4294967296", "set 1 0 4294967301", "set 4294967297 0 5", "set 1 4294967296 5",
			"set 1 0 9223372036854775807", "set 1 0 9223372036854775808", "set 1 0 18446744073709551615", "set 1 0 18446744073709551616", "set 1 0 18446744073709551621",
			"set 18446744073709551617 0 5", "set 1 18446744073709551616 5", "set 1 0 36893488147419103232", "set 1 0 " + long, "set " + long + " 0 5", "set 1 " + long + " 5",
		},
		"words": {
			"Set 1 0 5", "SET 1 0 5", "sett 1 0 5", "se 1 0 5", "s 1 0 5", "seta 1 0 5", "xset 1 0 5", "nop 1 0 5", "move 1 0 5", "halted 0 0 0", "hal 0 0 0", "copyy 1 0 5", "cop 1 0 5", "ou 1 0 5", "outt 1 0 5",
			"x", "1 1 0 5", "0 0 0 0", "11 0 0 0", "4613", "setadd 1 0 5", "set+ 1 0 5", "sét 1 0 5", "ſet 1 0 5", "set\x00 1 0 5", "\xffset 1 0 5", "halt\xff 0 0 0", strings.Repeat("set", 400) + " 1 0 5",
		},
		"bad": {
			"bad 1 0 5", "bad0 1 0 5", "bad1 1 0 5", "bad5 1 0 5", "bad9 1 0 5", "bad10 1 0 5", "bad16 1 0 5", "bad17 1 0 5", "bad20 1 0 5", "bad111 1 0 5", "bad110 1 0 5", "bad151 1 0 5", "bad150 1 0 5", "bad0011 1 0 5", "bad1 1 1 0 5",
			"bad4294967307 1 0 5", "bad18446744073709551627 1 0 5", "Bad11 1 0 5", "BAD11 1 0 5", "badd11 1 0 5", "ba11 1 0 5", "bad11x 1 0 5", "bad1x 1 0 5", "badbad11 1 0 5", "bad11.0 1 0 5", "bad11", "bad11 1 0", "bad11 1 0 5 ", "11bad 1 0 5",
		},
	}
}

// faultyInsts have a number that leaves its bounds, alone and with others.
func faultyInsts() []impl.Inst {
	list := []impl.Inst{
		{Op: 16}, {Op: 17}, {A: 8}, {A: 9}, {B: 8}, {B: 9}, {Imm: 64}, {Imm: 65}, {Op: 16, A: 7, B: 7, Imm: 63}, {Op: 15, A: 8, B: 7, Imm: 63}, {Op: 15, A: 7, B: 8, Imm: 63}, {Op: 15, A: 7, B: 7, Imm: 64},
		{Op: -1, A: -1, B: -1, Imm: -1}, {Op: 16, A: 8, B: 8, Imm: 64}, {Op: 16, A: -1}, {B: 8, Imm: -1}, {Op: -1, A: 8}, {Op: 1, A: -1, B: 8}, {A: -1, B: 8}, {B: -1, Imm: 64},
	}
	for _, number := range append(farNumbers(), -1, 256, 65536, 1<<48, math.MinInt64/4096, math.MaxInt64/4096+1) {
		list = append(list, impl.Inst{Op: number}, impl.Inst{A: number}, impl.Inst{B: number}, impl.Inst{Imm: number})
		list = append(list, impl.Inst{Op: number, A: 1, B: 2, Imm: 3}, impl.Inst{Op: 1, A: number, B: 2, Imm: 3}, impl.Inst{Op: 1, A: 2, B: number, Imm: 3}, impl.Inst{Op: 1, A: 2, B: 3, Imm: number})
	}
	return list
}

// noWords leave the bounds of a word.
func noWords() []int64 {
	return append(farNumbers(), -1, -65535, -65536, 65536, 65537, 131071, 131072, 1<<16+4613, 1<<48+4613)
}

// program is so many right lines, no two of the first 32 alike, and their words.
func program(many int) ([]string, []int64) {
	lines, words := []string{}, []int64{}
	for place := range int64(many) {
		w := (4613 + place*2053) % 65536
		lines, words = append(lines, plainText(inst(w))), append(words, w)
	}
	return lines, words
}

// wantNoInts also asks that all but the code is zero.
func wantNoInts(t *testing.T, what string, got impl.IntsResult, code int64) {
	t.Helper()
	if got.Code != code || len(got.List) != 0 {
		t.Errorf("%s: code %d, list %v; want code %d and no list", what, got.Code, got.List, code)
	}
}
