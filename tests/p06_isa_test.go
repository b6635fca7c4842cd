package tests

// Promise 6: each word is an instruction, which is read back from its text.

import (
	"fmt"
	"slices"
	"strconv"
	"strings"
	"testing"

	"loop.example/g00530/impl"
)

func TestInstNumbers(t *testing.T) {
	kinds := []int64{impl.DoHalt, impl.DoSet, impl.DoAdd, impl.DoSub, impl.DoLoad, impl.DoStore, impl.DoJump, impl.DoZero, impl.DoCall, impl.DoOut, impl.DoCopy}
	for place, kind := range kinds {
		if kind != int64(place) {
			t.Errorf("the kind at %d is %d", place, kind)
		}
	}
	if impl.MaxWord != 65535 || impl.Registers != 8 {
		t.Error(impl.MaxWord, impl.Registers)
	}
}

// Examples that are written out, not counted together or told by the tests' own tables.
func TestInstExamples(t *testing.T) {
	examples := []struct {
		text string
		inst impl.Inst
		word int64
	}{
		{"halt 0 0 0", impl.Inst{}, 0},
		{"halt 0 0 63", impl.Inst{Imm: 63}, 63},
		{"halt 0 1 0", impl.Inst{B: 1}, 64},
		{"halt 1 0 0", impl.Inst{A: 1}, 512},
		{"set 0 0 0", impl.Inst{Op: 1}, 4096},
		{"set 1 0 5", impl.Inst{Op: 1, A: 1, Imm: 5}, 4613},
		{"add 2 3 0", impl.Inst{Op: 2, A: 2, B: 3}, 9408},
		{"sub 7 7 63", impl.Inst{Op: 3, A: 7, B: 7, Imm: 63}, 16383},
		{"load 1 2 3", impl.Inst{Op: 4, A: 1, B: 2, Imm: 3}, 17027},
		{"store 6 5 10", impl.Inst{Op: 5, A: 6, B: 5, Imm: 10}, 23882},
		{"jump 0 0 31", impl.Inst{Op: 6, Imm: 31}, 24607},
		{"zero 4 0 1", impl.Inst{Op: 7, A: 4, Imm: 1}, 30721},
		{"call 0 0 9", impl.Inst{Op: 8, Imm: 9}, 32777},
		{"out 7 0 0", impl.Inst{Op: 9, A: 7}, 40448},
		{"copy 0 7 0", impl.Inst{Op: 10, B: 7}, 41408},
		{"copy 7 7 63", impl.Inst{Op: 10, A: 7, B: 7, Imm: 63}, 45055},
		{"bad11 0 0 0", impl.Inst{Op: 11}, 45056},
		{"bad12 1 0 0", impl.Inst{Op: 12, A: 1}, 49664},
		{"bad13 0 1 0", impl.Inst{Op: 13, B: 1}, 53312},
		{"bad14 0 0 1", impl.Inst{Op: 14, Imm: 1}, 57345},
		{"bad15 0 0 0", impl.Inst{Op: 15}, 61440},
		{"bad15 7 7 62", impl.Inst{Op: 15, A: 7, B: 7, Imm: 62}, 65534},
		{"bad15 7 7 63", impl.Inst{Op: 15, A: 7, B: 7, Imm: 63}, 65535},
	}
	for _, e := range examples {
		wantInt(t, "EncodeInst "+e.text, impl.EncodeInst(e.inst), e.word)
		if got := impl.DecodeWord(e.word); got != (impl.InstResult{Inst: e.inst}) {
			t.Errorf("DecodeWord %d: %v; want %v", e.word, got, e.inst)
		}
		if got := impl.InstText(e.inst); got != (impl.TextResult{Text: e.text}) {
			t.Errorf("InstText %v: %v; want %q", e.inst, got, e.text)
		}
		if got := impl.ParseInst(e.text); got != (impl.InstResult{Inst: e.inst}) {
			t.Errorf("ParseInst %q: %v; want %v", e.text, got, e.inst)
		}
		if got := impl.Assemble([]string{e.text}); got.Code != impl.OK || !slices.Equal(got.List, []int64{e.word}) {
			t.Errorf("Assemble %q: %v; want %d", e.text, got, e.word)
		}
	}
}

// Every word is one instruction, and is told and read back as it was.
func TestEachWordIsAnInstruction(t *testing.T) {
	eachWord(func(w int64) {
		got := impl.DecodeWord(w)
		if got != (impl.InstResult{Inst: inst(w)}) {
			t.Fatalf("DecodeWord %d: %v; want %v", w, got, inst(w))
		}
		if code := impl.InstFault(got.Inst); code != impl.OK {
			t.Fatalf("InstFault of word %d: %d", w, code)
		}
		if back := impl.EncodeInst(got.Inst); back != (impl.IntResult{Value: w}) {
			t.Fatalf("EncodeInst of word %d: %v", w, back)
		}
		text := impl.InstText(got.Inst)
		if text != (impl.TextResult{Text: plainText(got.Inst)}) {
			t.Fatalf("InstText of word %d: %v; want %q", w, text, plainText(got.Inst))
		}
		if back := impl.ParseInst(text.Text); back != got {
			t.Fatalf("ParseInst %q: %v; want %v", text.Text, back, got)
		}
	})
}

// No two instructions have one text, or one word.
func TestInstTextsAndWordsAreApart(t *testing.T) {
	texts, words := map[string]bool{}, map[int64]bool{}
	eachWord(func(w int64) {
		texts[impl.InstText(inst(w)).Text] = true
		words[impl.EncodeInst(inst(w)).Value] = true
	})
	if len(texts) != 65536 || len(words) != 65536 {
		t.Errorf("%d texts and %d words", len(texts), len(words))
	}
}

func TestDecodeWordOutOfBounds(t *testing.T) {
	for _, w := range noWords() {
		if got := impl.DecodeWord(w); got != (impl.InstResult{Code: impl.ErrRange}) {
			t.Errorf("DecodeWord %d: %v; want ErrRange and all else zero", w, got)
		}
	}
}

// wantInstFault holds all functions that ask the fault of an instruction against it.
func wantInstFault(t *testing.T, i impl.Inst, code int64) {
	t.Helper()
	if got := impl.InstFault(i); got != code {
		t.Errorf("InstFault %v: %d; want %d", i, got, code)
	}
	encoded, text := impl.EncodeInst(i), impl.InstText(i)
	if code != impl.OK && (encoded != impl.IntResult{Code: code} || text != impl.TextResult{Code: code}) {
		t.Errorf("%v: EncodeInst %v, InstText %v; want code %d and all else zero", i, encoded, text, code)
	}
	if code == impl.OK && (encoded.Code != impl.OK || text.Code != impl.OK) {
		t.Errorf("%v: EncodeInst %v, InstText %v; want no code", i, encoded, text)
	}
}

// Every number around the bounds of each part, with each of the others.
func TestInstFaultAroundTheBounds(t *testing.T) {
	within := func(number, most int64) bool { return number >= 0 && number <= most }
	for _, op := range []int64{-2, -1, 0, 1, 9, 10, 11, 12, 14, 15, 16, 17, 31} {
		for a := int64(-2); a <= 9; a++ {
			for b := int64(-2); b <= 9; b++ {
				for _, imm := range []int64{-64, -2, -1, 0, 1, 7, 8, 62, 63, 64, 65, 127, 128} {
					want := int64(impl.ErrRange)
					if within(op, 15) && within(a, 7) && within(b, 7) && within(imm, 63) {
						want = impl.OK
					}
					wantInstFault(t, impl.Inst{Op: op, A: a, B: b, Imm: imm}, want)
				}
			}
		}
	}
}

func TestInstFaultFarFromTheBounds(t *testing.T) {
	for _, i := range faultyInsts() {
		wantInstFault(t, i, impl.ErrRange)
	}
}

func TestParseInstOfWrongTexts(t *testing.T) {
	for what, list := range wrongTexts() {
		for _, text := range list {
			if got := impl.ParseInst(text); got != (impl.InstResult{Code: impl.ErrText}) {
				t.Errorf("%s: ParseInst %q: %v; want ErrText and all else zero", what, text, got)
			}
		}
	}
}

// A right text with one byte more, one less, or another one is read where it is that of an instruction, and nowhere else.
func TestParseInstOneByteOff(t *testing.T) {
	texts := allTexts()
	for _, text := range someTexts() {
		wantParse(t, texts, text)
		for at := range len(text) + 1 {
			for sign := range 256 {
				one := string([]byte{byte(sign)})
				wantParse(t, texts, text[:at]+one+text[at:])
				if at < len(text) {
					wantParse(t, texts, text[:at]+one+text[at+1:])
				}
			}
			wantParse(t, texts, text[:at])
			wantParse(t, texts, text[at:])
			if at < len(text) {
				wantParse(t, texts, text[:at]+text[at+1:])
			}
		}
	}
}

// Two signs at a time, of those that mean something in a text, wherever they stand.
func TestParseInstTwoBytesOff(t *testing.T) {
	texts := allTexts()
	signs := strings.Split(" 0123456789-+abdehost", "")
	for _, text := range []string{"set 1 0 5", "bad11 7 7 63"} {
		for at := range len(text) + 1 {
			for behind := at; behind <= len(text); behind++ {
				for _, first := range signs {
					for _, second := range signs {
						wantParse(t, texts, text[:at]+first+text[at:behind]+second+text[behind:])
					}
				}
			}
		}
	}
}

// Each number of 1 to 4 digits, in each place where a number stands, beside a word too, and with zeros ahead.
func TestParseInstOfNumbers(t *testing.T) {
	texts := allTexts()
	for number := range 10000 {
		digits := strconv.Itoa(number)
		for _, told := range []string{digits, "0" + digits, "00" + digits, "-" + digits, "+" + digits} {
			for _, form := range []string{"set # 0 5", "set 1 # 5", "set 1 0 #", "bad# 1 0 5", "bad15 # 7 63", "set# 1 0 5", "# 1 0 5", "bad #"} {
				wantParse(t, texts, strings.ReplaceAll(form, "#", told))
			}
		}
	}
}

// The word of each kind, and with its number, each with the numbers beside the bounds.
func TestParseInstOfWords(t *testing.T) {
	texts := allTexts()
	words := append(kindNames(), "", "bad", "HALT", "nop")
	for op := range 130 {
		words = append(words, fmt.Sprint("bad", op), fmt.Sprint("bad0", op), fmt.Sprint("set", op), strconv.Itoa(op))
	}
	for _, word := range words {
		for _, rest := range []string{" 0 0 0", " 7 7 63", " 8 0 0", " 0 8 0", " 0 0 64", " 7 7 63 ", " 0 0", "", " "} {
			wantParse(t, texts, word+rest)
		}
	}
}

// What is read has the very text that was read.
func TestParseInstTellsTheSameText(t *testing.T) {
	texts := allTexts()
	read := 0
	for text := range texts {
		if got := impl.ParseInst(text); got.Code == impl.OK && impl.InstText(got.Inst).Text == text {
			read++
		}
	}
	if read != 65536 {
		t.Errorf("of 65536 texts %d are read and told again", read)
	}
}

func TestAssembleOfSoManyLines(t *testing.T) {
	for many := range 70 {
		lines, words := program(many)
		got := impl.Assemble(lines)
		if many > 32 {
			wantNoInts(t, fmt.Sprint(many, " lines"), got, impl.ErrMany)
		} else if got.Code != impl.OK || !slices.Equal(got.List, words) {
			t.Errorf("%d lines: %v; want %v", many, got, words)
		}
	}
}

// All words, 32 at a time, in their order.
func TestAssembleOfAllWords(t *testing.T) {
	for first := int64(0); first < 65536; first += 32 {
		lines, words := []string{}, []int64{}
		for w := first + 31; w >= first; w-- {
			lines, words = append(lines, plainText(inst(w))), append(words, w)
		}
		if got := impl.Assemble(lines); got.Code != impl.OK || !slices.Equal(got.List, words) {
			t.Fatalf("the words from %d on: %v; want %v", first, got, words)
		}
	}
}

// Lines may be alike.
func TestAssembleOfOneLineOften(t *testing.T) {
	lines, words := slices.Repeat([]string{"set 1 0 5"}, 32), slices.Repeat([]int64{4613}, 32)
	if got := impl.Assemble(lines); got.Code != impl.OK || !slices.Equal(got.List, words) {
		t.Error(got)
	}
}

func TestAssembleOfAWrongLine(t *testing.T) {
	for what, list := range wrongTexts() {
		for _, text := range list {
			wantNoInts(t, fmt.Sprintf("%s: %q alone", what, text), impl.Assemble([]string{text}), impl.ErrText)
			for _, place := range []int{0, 1, 16, 30, 31} {
				lines, _ := program(32)
				lines[place] = text
				wantNoInts(t, fmt.Sprintf("%s: %q at %d", what, text, place), impl.Assemble(lines), impl.ErrText)
			}
		}
	}
	for many := 1; many <= 32; many++ {
		for place := range many {
			lines, _ := program(many)
			lines[place] = "set 8 0 5"
			wantNoInts(t, fmt.Sprintf("wrong at %d of %d", place, many), impl.Assemble(lines), impl.ErrText)
		}
	}
}

func TestAssembleOfSeveralWrongLines(t *testing.T) {
	for first := range 32 {
		for second := first + 1; second < 32; second++ {
			lines, _ := program(32)
			lines[first], lines[second] = "", "set 1 0 64"
			wantNoInts(t, fmt.Sprintf("wrong at %d and %d", first, second), impl.Assemble(lines), impl.ErrText)
		}
	}
	wantNoInts(t, "all wrong", impl.Assemble(slices.Repeat([]string{"x"}, 32)), impl.ErrText)
	wantNoInts(t, "all empty", impl.Assemble(make([]string, 32)), impl.ErrText)
}

// That there are too many lines is asked ahead of every line.
func TestAssembleOfTooManyWrongLines(t *testing.T) {
	for place := range 33 {
		lines, _ := program(33)
		lines[place] = "set 1 0 64"
		wantNoInts(t, fmt.Sprint("33 lines, wrong at ", place), impl.Assemble(lines), impl.ErrMany)
	}
	for _, many := range []int{33, 34, 64, 1000, 65536, 65537, 65536 + 32} {
		wantNoInts(t, fmt.Sprint(many, " empty lines"), impl.Assemble(make([]string, many)), impl.ErrMany)
		wantNoInts(t, fmt.Sprint(many, " right lines"), impl.Assemble(slices.Repeat([]string{"halt 0 0 0"}, many)), impl.ErrMany)
	}
}
