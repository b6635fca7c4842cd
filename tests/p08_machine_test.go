package tests

// Promise 8: what the cache does not allow turns nothing; no instruction turns a mark, a label or the cache; what the cache
// says of a bit is what its line says.

import (
	"fmt"
	"math/rand"
	"slices"
	"testing"

	"loop.example/g00530/impl"
)

func TestMachineBounds(t *testing.T) {
	got := []int64{impl.OutDone, impl.OutMiss, impl.OutDenied, impl.OutCall, impl.OutIdle, impl.MaxGates, impl.MaxOut}
	if want := []int64{1, 2, 3, 4, 5, 3, 40}; !slices.Equal(got, want) {
		t.Errorf("%v; want %v", got, want)
	}
}

func TestNewContext(t *testing.T) {
	for _, pc := range []int64{0, 1, 7, 31, 32, 255, 256, 32767, 32768, 65534, 65535} {
		wantContext(t, fmt.Sprint("a Pc of ", pc), impl.NewContext(pc), impl.Context{Regs: make([]int64, 8), Pc: pc})
	}
	for _, pc := range notWords() {
		wantNoContext(t, fmt.Sprint("a Pc of ", pc), impl.NewContext(pc), impl.ErrRange)
	}
}

// wantSameContexts asks both ways.
func wantSameContexts(t *testing.T, what string, a, b impl.Context, want bool) {
	t.Helper()
	if impl.SameContexts(a, b) != want || impl.SameContexts(b, a) != want {
		t.Errorf("%s: same %v and %v; want %v", what, impl.SameContexts(a, b), impl.SameContexts(b, a), want)
	}
}

// One number that differs, wherever it stands, and by whatever, is enough, and so is Halted.
func TestSameContextsOfOneThatDiffers(t *testing.T) {
	for many := range 12 {
		for _, halted := range []bool{false, true} {
			context := func() impl.Context {
				c := impl.Context{Pc: 9, Halted: halted}
				for n := range many {
					c.Regs = append(c.Regs, int64(n*n))
				}
				return c
			}
			a, b := context(), context()
			wantSameContexts(t, fmt.Sprint(many, " registers"), a, b, true)
			b.Halted = !halted
			wantSameContexts(t, fmt.Sprint(many, " registers, one halted"), a, b, false)
			for _, by := range []int64{1, -1, 65536, 1 << 32, -1 << 63} {
				b = context()
				b.Pc += by
				wantSameContexts(t, fmt.Sprintf("%d registers, Pc %d more", many, by), a, b, false)
				for n := range many {
					b = context()
					b.Regs[n] += by
					wantSameContexts(t, fmt.Sprintf("%d registers, register %d %d more", many, n, by), a, b, false)
				}
			}
		}
	}
}

func TestSameContextsOfSoManyRegisters(t *testing.T) {
	for many := range 12 {
		for other := range 12 {
			a, b := impl.Context{Regs: make([]int64, many)}, impl.Context{Regs: make([]int64, other)}
			wantSameContexts(t, fmt.Sprint(many, " and ", other, " registers"), a, b, many == other)
		}
	}
	wantSameContexts(t, "nil and empty", impl.Context{}, impl.Context{Regs: []int64{}}, true)
	wantSameContexts(t, "in another order", impl.Context{Regs: []int64{1, 2}}, impl.Context{Regs: []int64{2, 1}}, false)
	wantSameContexts(t, "Pc for a register", impl.Context{Regs: []int64{1}, Pc: 2}, impl.Context{Regs: []int64{2}, Pc: 1}, false)
}

func TestSystemFaultOfGoodOnes(t *testing.T) {
	for _, s := range goodSystems(t) {
		if code := impl.SystemFault(s); code != impl.OK || plainSystemFault(s) != impl.OK {
			t.Errorf("%v: code %d, told plainly %d", s, code, plainSystemFault(s))
		}
	}
}

func TestSystemFaultOfFaultyOnes(t *testing.T) {
	for _, f := range faultySystems(t) {
		if code := impl.SystemFault(f.system); code != f.code || plainSystemFault(f.system) != f.code {
			t.Errorf("%s: code %d, told plainly %d; want %d", f.name, code, plainSystemFault(f.system), f.code)
		}
	}
}

func TestSystemFaultOfSeveralFaults(t *testing.T) {
	eachManyFaulty(t, func(f faultySystem) {
		if code := impl.SystemFault(f.system); code != f.code {
			t.Errorf("%s: code %d; want %d", f.name, code, f.code)
		}
	})
}

// Each context is asked both codes ahead of the next one, whichever of them it is.
func TestSystemFaultGoesContextByContext(t *testing.T) {
	few := func(c *impl.Context) { c.Regs = c.Regs[:7] }
	high := func(c *impl.Context) { c.Regs[3] = 65536 }
	far := func(c *impl.Context) { c.Pc = -1 }
	base := system(t, "0:", "0.1")
	for first := range 4 {
		for second := range 4 {
			for _, wrong := range []func(c *impl.Context){high, far} {
				s := turned(base, func(s *impl.System) {
					wrong(&s.Contexts[first])
					few(&s.Contexts[second])
				})
				want := int64(impl.ErrForm)
				if first < second {
					want = impl.ErrRange
				}
				if code := impl.SystemFault(s); code != want {
					t.Errorf("context %d out of its bounds, %d with too few registers: code %d; want %d", first, second, code, want)
				}
			}
		}
	}
}

// The memory is asked for how many tags there are, and the others as many domains as there are, whatever there could be.
func TestSystemFaultByTagsAndDomains(t *testing.T) {
	for tags := 1; tags <= 6; tags++ {
		for domains := 1; domains <= 4; domains++ {
			x := impl.Tables{Registry: impl.Registry{Slots: []impl.Slot{{Count: int64(tags + domains), Label: label(t, "1111")}}}, Tags: make([]int64, tags), Domains: make([]int64, domains)}
			for number := int64(-1); number <= 7; number++ {
				word, active, device, gate, line := systemOf(x, impl.Word{Tag: number}), systemOf(x), systemOf(x), systemOf(x), systemOf(x)
				active.Active, device.Device = number, number
				gate.Gates = []impl.Gate{{Domain: number}}
				line.Cache = impl.Cache{Size: 1, Lines: []impl.Line{{Domain: int64(domains) - 1, Tag: number, Perm: 7}}}
				isTag, isDomain := number >= 1 && number <= int64(tags), number >= 0 && number < int64(domains)
				for _, row := range []struct {
					name  string
					s     impl.System
					right bool
					code  int64
				}{
					{"word", word, isTag || number == 0, impl.ErrRange},
					{"active", active, isDomain, impl.ErrNone},
					{"device", device, isTag, impl.ErrNone},
					{"gate", gate, isDomain, impl.ErrRange},
				} {
					want := row.code
					if row.right {
						want = impl.OK
					}
					if code := impl.SystemFault(row.s); code != want {
						t.Errorf("%s %d of %d tags and %d domains: code %d; want %d", row.name, number, tags, domains, code, want)
					}
				}
				if code := impl.SystemFault(line); code != plainSystemFault(line) || (code == impl.OK) != isTag {
					t.Errorf("line of tag %d of %d tags and %d domains: code %d", number, tags, domains, code)
				}
			}
		}
	}
}

func TestContextOf(t *testing.T) {
	for _, s := range goodSystems(t) {
		for domain, want := range s.Contexts {
			wantContext(t, fmt.Sprint("domain ", domain), impl.ContextOf(s, int64(domain)), want)
		}
		many := int64(len(s.Contexts))
		for _, domain := range append(farNumbers(), -1, many, many+1, 100) {
			wantNoContext(t, fmt.Sprintf("domain %d of %d", domain, many), impl.ContextOf(s, domain), impl.ErrNone)
		}
	}
}

// A line has every perm there is: each bit alone, none and all of them.
func TestAllowedByEachLine(t *testing.T) {
	eachLine(func(l impl.Line) {
		for _, c := range []impl.Cache{{Size: 1, Lines: []impl.Line{l}}, {Size: 2, Lines: []impl.Line{{Domain: (l.Domain + 1) % 4, Tag: l.Tag, Perm: 7 - l.Perm}, l}}, {Size: 6, Lines: []impl.Line{l, {Domain: l.Domain, Tag: (l.Tag + 1) % 7, Perm: 7 - l.Perm}}}} {
			for _, bit := range []int64{impl.MayRead, impl.MayWrite, impl.MayRun} {
				want := int64(0)
				if l.Perm&bit != 0 {
					want = 1
				}
				wantInt(t, fmt.Sprintf("bit %d of %s", bit, cacheTold(c)), impl.AllowedBy(c, l.Domain, l.Tag, bit), want)
			}
		}
	})
}

func TestAllowedByRows(t *testing.T) {
	c := cache(t, "6: 011 022 034 104 115 200")
	for _, row := range []struct{ domain, tag, read, write, run int64 }{{0, 1, 1, 0, 0}, {0, 2, 0, 1, 0}, {0, 3, 0, 0, 1}, {1, 0, 0, 0, 1}, {1, 1, 1, 0, 1}, {2, 0, 0, 0, 0}} {
		wantInt(t, fmt.Sprint("to read ", row), impl.AllowedBy(c, row.domain, row.tag, 1), row.read)
		wantInt(t, fmt.Sprint("to write ", row), impl.AllowedBy(c, row.domain, row.tag, 2), row.write)
		wantInt(t, fmt.Sprint("to run ", row), impl.AllowedBy(c, row.domain, row.tag, 4), row.run)
	}
}

// What is no bit, or two of them together, is told ahead of a line that is none, and behind a fault of the cache.
func TestAllowedByCodes(t *testing.T) {
	noBits := append(farNumbers(), -4, -1, 0, 3, 5, 6, 7, 8, 9, 16, 1<<32+2, 1<<32+4)
	for _, text := range goodCaches() {
		c := cache(t, text)
		for domain := int64(-2); domain <= 5; domain++ {
			for tag := int64(-2); tag <= 8; tag++ {
				what := fmt.Sprintf("domain %d and tag %d of %q", domain, tag, text)
				for _, bit := range noBits {
					wantNoInt(t, fmt.Sprint(what, ", bit ", bit), impl.AllowedBy(c, domain, tag, bit), impl.ErrRange)
				}
				perm, known := plain(c).look(domain, tag)
				for _, bit := range []int64{1, 2, 4} {
					got := impl.AllowedBy(c, domain, tag, bit)
					if known && got != (impl.IntResult{Value: min(1, perm&bit)}) || !known && got != (impl.IntResult{Code: impl.ErrNone}) {
						t.Errorf("%s, bit %d: %v", what, bit, got)
					}
				}
			}
		}
		for _, far := range farNumbers() {
			wantNoInt(t, fmt.Sprint("domain ", far), impl.AllowedBy(c, far, 1, 4), impl.ErrNone)
			wantNoInt(t, fmt.Sprint("tag ", far), impl.AllowedBy(c, 0, far, 4), impl.ErrNone)
		}
	}
	for _, f := range allFaultyCaches(t) {
		for _, bit := range append(noBits, 1, 2, 4) {
			wantNoInt(t, fmt.Sprintf("%s, bit %d", f.name, bit), impl.AllowedBy(f.cache, 0, 1, bit), f.code)
			wantNoInt(t, fmt.Sprintf("%s, bit %d, of no line", f.name, bit), impl.AllowedBy(f.cache, 9, -1, bit), f.code)
		}
	}
}

// stepRow is a step of domain 0, where nothing else is set: kind, tag and call are told, and what turns.
type stepRow struct {
	name            string
	lines, words    string
	set             func(s *impl.System)
	kind, tag, call int64
	turns           func(s *impl.System)
}

func nothing(*impl.System) {}

// next turns what is told, and Pc to 1.
func next(turn func(c *impl.Context)) func(s *impl.System) {
	return func(s *impl.System) {
		turn(who(s))
		who(s).Pc = 1
	}
}

func regs(turn func(regs []int64)) func(s *impl.System) {
	return func(s *impl.System) { turn(who(s).Regs) }
}

func wantRows(t *testing.T, rows []stepRow) {
	t.Helper()
	for _, row := range rows {
		s := system(t, row.lines, row.words)
		if row.set != nil {
			row.set(&s)
		}
		if code := impl.SystemFault(s); code != impl.OK {
			t.Fatalf("%s: the fault %d", row.name, code)
		}
		wantStep(t, row.name, impl.TryStep(s), impl.StepResult{Kind: row.kind, Tag: row.tag, Call: row.call, System: turned(s, row.turns)})
	}
}

// Each of the instructions that ask for nothing but themselves, done.
func TestTryStepDone(t *testing.T) {
	reg := func(n int, v int64) func(s *impl.System) { return next(func(c *impl.Context) { c.Regs[n] = v }) }
	set := func(n int, v int64, m int, w int64) func(s *impl.System) {
		return regs(func(regs []int64) { regs[n], regs[m] = v, w })
	}
	wantRows(t, []stepRow{
		{"halt", allOfZero, "halt 0 0 0.1", nil, impl.OutDone, 0, 0, func(s *impl.System) { who(s).Halted = true }},
		{"halt with all else", allOfZero, "halt 7 7 63.1", nil, impl.OutDone, 0, 0, func(s *impl.System) { who(s).Halted = true }},
		{"set", allOfZero, "set 1 0 5.1", nil, impl.OutDone, 0, 0, reg(1, 5)},
		{"set the most", allOfZero, "set 7 3 63.1", nil, impl.OutDone, 0, 0, reg(7, 63)},
		{"set to 0", allOfZero, "set 5 5 0.1", nil, impl.OutDone, 0, 0, reg(5, 0)},
		{"add", allOfZero, "add 2 3 9.1", nil, impl.OutDone, 0, 0, reg(2, 5)},
		{"add to itself", allOfZero, "add 6 6 0.1", nil, impl.OutDone, 0, 0, reg(6, 12)},
		{"add up to the most", allOfZero, "add 1 2 0.1", set(1, 65534, 2, 1), impl.OutDone, 0, 0, reg(1, 65535)},
		{"add past the most", allOfZero, "add 1 2 0.1", set(1, 65535, 2, 1), impl.OutDone, 0, 0, reg(1, 0)},
		{"add the most to the most", allOfZero, "add 1 2 0.1", set(1, 65535, 2, 65535), impl.OutDone, 0, 0, reg(1, 65534)},
		{"double the most", allOfZero, "add 1 1 0.1", set(1, 65535, 1, 65535), impl.OutDone, 0, 0, reg(1, 65534)},
		{"sub", allOfZero, "sub 5 3 9.1", nil, impl.OutDone, 0, 0, reg(5, 2)},
		{"sub itself", allOfZero, "sub 6 6 1.1", nil, impl.OutDone, 0, 0, reg(6, 0)},
		{"sub down to 0", allOfZero, "sub 1 2 0.1", set(1, 65535, 2, 65535), impl.OutDone, 0, 0, reg(1, 0)},
		{"sub below 0", allOfZero, "sub 1 2 0.1", set(1, 0, 2, 1), impl.OutDone, 0, 0, reg(1, 65535)},
		{"sub the most from 0", allOfZero, "sub 1 2 0.1", set(1, 0, 2, 65535), impl.OutDone, 0, 0, reg(1, 1)},
		{"sub 0 from 0", allOfZero, "sub 1 2 0.1", set(1, 0, 2, 0), impl.OutDone, 0, 0, reg(1, 0)},
		{"copy", allOfZero, "copy 2 7 9.1", nil, impl.OutDone, 0, 0, reg(2, 7)},
		{"copy to itself", allOfZero, "copy 4 4 9.1", nil, impl.OutDone, 0, 0, reg(4, 4)},
		{"copy the most", allOfZero, "copy 4 1 0.1", set(1, 65535, 4, 0), impl.OutDone, 0, 0, reg(4, 65535)},
		{"call", allOfZero, "call 0 0 9.1", nil, impl.OutCall, 0, 9, next(func(*impl.Context) {})},
		{"call the most", allOfZero, "call 7 7 63.1", nil, impl.OutCall, 0, 63, next(func(*impl.Context) {})},
		{"call 0", allOfZero, "call 3 1 0.1", nil, impl.OutCall, 0, 0, next(func(*impl.Context) {})},
		{"run what may not be written", allOfZero, "set 1 0 5.3", nil, impl.OutDone, 0, 0, reg(1, 5)},
	})
}

// A jump that is made leaves Pc where it leads to, one that is not made goes on.
func TestTryStepJumps(t *testing.T) {
	to := func(pc int64) func(s *impl.System) { return func(s *impl.System) { who(s).Pc = pc } }
	at := func(pc int64) func(s *impl.System) { return func(s *impl.System) { who(s).Pc = pc } }
	wantRows(t, []stepRow{
		{"jump", allOfZero, "jump 0 0 5.1", nil, impl.OutDone, 0, 0, to(5)},
		{"jump with all else", allOfZero, "jump 7 7 2.1", nil, impl.OutDone, 0, 0, to(2)},
		{"jump out of memory", allOfZero, "jump 0 0 63.1", nil, impl.OutDone, 0, 0, to(63)},
		{"jump to itself", allOfZero, "jump 1 0 0.1", nil, impl.OutDone, 0, 0, nothing},
		{"jump to itself behind", allOfZero, "0.1; 0.1; jump 1 0 2.1", at(2), impl.OutDone, 0, 0, nothing},
		{"jump to the next", allOfZero, "jump 1 0 1.1", nil, impl.OutDone, 0, 0, to(1)},
		{"jump back", allOfZero, "0.1; 0.1; jump 1 0 0.1", at(2), impl.OutDone, 0, 0, to(0)},
		{"zero of 0", allOfZero, "zero 0 0 5.1", nil, impl.OutDone, 0, 0, to(5)},
		{"zero of 0, B not 0", allOfZero, "zero 0 7 6.1", nil, impl.OutDone, 0, 0, to(6)},
		{"zero of 0 to itself", allOfZero, "zero 0 0 0.1", nil, impl.OutDone, 0, 0, nothing},
		{"zero of 1", allOfZero, "zero 1 0 5.1", nil, impl.OutDone, 0, 0, to(1)},
		{"zero of 7, B 0", allOfZero, "zero 7 0 0.1", nil, impl.OutDone, 0, 0, to(1)},
		{"zero of the most", allOfZero, "zero 2 2 9.1", regs(func(regs []int64) { regs[2] = 65535 }), impl.OutDone, 0, 0, to(1)},
		{"zero behind, not made", allOfZero, "0.1; 0.1; zero 2 0 0.1", at(2), impl.OutDone, 0, 0, to(3)},
		{"zero behind, made", allOfZero, "0.1; 0.1; zero 0 2 1.1", at(2), impl.OutDone, 0, 0, to(1)},
		{"halt behind stays there", allOfZero, "0.1; 0.1; halt 0 0 0.1", at(2), impl.OutDone, 0, 0, func(s *impl.System) { who(s).Halted = true }},
	})
}

// Loads and stores, of the places around the ends of memory and past what a word can be.
func TestTryStepLoadsAndStores(t *testing.T) {
	load := func(n int, v int64) func(s *impl.System) { return next(func(c *impl.Context) { c.Regs[n] = v }) }
	store := func(at int, v int64) func(s *impl.System) {
		return func(s *impl.System) {
			s.Memory.Words[at].Value = v
			who(s).Pc = 1
		}
	}
	reg := func(n int, v int64) func(s *impl.System) { return regs(func(regs []int64) { regs[n] = v }) }
	load4, store4 := "load 5 4 0.1; 11.1; 12.3; 13.1; 14.1", "store 5 4 0.1; 11.1; 12.3; 13.1; 14.1"
	wantRows(t, []stepRow{
		{"load", allOfZero, "load 5 1 2.1; 11.1; 12.3; 13.1", nil, impl.OutDone, 0, 0, load(5, 13)},
		{"load what may be read alone", allOfZero, "load 5 0 2.1; 11.1; 12.3", nil, impl.OutDone, 0, 0, load(5, 12)},
		{"load itself", allOfZero, "load 5 0 0.1", nil, impl.OutDone, 0, 0, load(5, 4*4096+5*512)},
		{"load into where the place was", allOfZero, "load 1 1 0.1; 65535.1", nil, impl.OutDone, 0, 0, load(1, 65535)},
		{"load the last", allOfZero, load4, nil, impl.OutDone, 0, 0, load(5, 14)},
		{"load behind the last", allOfZero, "load 5 5 0.1; 11.1; 12.3; 13.1; 14.1", nil, impl.OutDenied, 0, 0, nothing},
		{"load far behind", allOfZero, load4, reg(4, 32768), impl.OutDenied, 0, 0, nothing},
		{"load the most", allOfZero, load4, reg(4, 65535), impl.OutDenied, 0, 0, nothing},
		{"load past the most", allOfZero, "load 5 4 1.1; 11.1", reg(4, 65535), impl.OutDone, 0, 0, load(5, 4*4096+5*512+4*64+1)},
		{"load farther past the most", allOfZero, "load 5 4 3.1; 11.1; 12.3", reg(4, 65535), impl.OutDone, 0, 0, load(5, 12)},
		{"load just behind past the most", allOfZero, "load 5 4 3.1; 11.1", reg(4, 65535), impl.OutDenied, 0, 0, nothing},
		{"load by Imm past the most", allOfZero, "load 5 4 63.1; 11.1", reg(4, 65474), impl.OutDone, 0, 0, load(5, 11)},
		{"store", allOfZero, "store 5 1 2.1; 11.1; 12.3; 13.1", nil, impl.OutDone, 0, 0, store(3, 5)},
		{"store the most", allOfZero, "store 5 1 2.1; 11.1; 12.3; 13.1", reg(5, 65535), impl.OutDone, 0, 0, store(3, 65535)},
		{"store over itself", allOfZero, "store 5 0 0.1; 11.1", nil, impl.OutDone, 0, 0, store(0, 5)},
		{"store its own place", allOfZero, "store 1 1 0.1; 11.1", nil, impl.OutDone, 0, 0, store(1, 1)},
		{"store the last", allOfZero, store4, nil, impl.OutDone, 0, 0, store(4, 5)},
		{"store behind the last", allOfZero, "store 5 5 0.1; 11.1; 12.3; 13.1; 14.1", nil, impl.OutDenied, 0, 0, nothing},
		{"store at the most", allOfZero, store4, reg(4, 65535), impl.OutDenied, 0, 0, nothing},
		{"store past the most", allOfZero, "store 5 4 2.1; 11.1", reg(4, 65535), impl.OutDone, 0, 0, store(1, 5)},
		{"store just behind past the most", allOfZero, "store 5 4 3.1; 11.1", reg(4, 65535), impl.OutDenied, 0, 0, nothing},
		{"load what may not be read", allOfZero, "load 5 1 0.1; 11.2", nil, impl.OutDenied, 0, 0, nothing},
		{"store what may be read alone", allOfZero, "store 5 1 0.1; 11.3", nil, impl.OutDenied, 0, 0, nothing},
		{"store what may not be read", allOfZero, "store 5 1 0.1; 11.2", nil, impl.OutDenied, 0, 0, nothing},
		{"load the monitor's", allOfZero, "load 5 1 0.1; 11.0", nil, impl.OutDenied, 0, 0, nothing},
		{"store the monitor's", allOfZero, "store 5 1 0.1; 11.0", nil, impl.OutDenied, 0, 0, nothing},
	})
}

// Outs, with one fewer than as many as may be, and as many.
func TestTryStepOuts(t *testing.T) {
	many := func(n int) func(s *impl.System) {
		return func(s *impl.System) { s.Out = slices.Repeat([]int64{3}, n) }
	}
	device := func(tag int64) func(s *impl.System) { return func(s *impl.System) { s.Device = tag } }
	out := func(v int64) func(s *impl.System) {
		return func(s *impl.System) {
			s.Out = append(s.Out, v)
			who(s).Pc = 1
		}
	}
	full := func(tag int64) func(s *impl.System) {
		return func(s *impl.System) {
			many(40)(s)
			s.Device = tag
		}
	}
	wantRows(t, []stepRow{
		{"out", allOfZero, "out 5 0 0.1", nil, impl.OutDone, 0, 0, out(5)},
		{"out with all else", allOfZero, "out 2 7 63.1", nil, impl.OutDone, 0, 0, out(2)},
		{"out of the most", allOfZero, "out 2 0 0.1", regs(func(regs []int64) { regs[2] = 65535 }), impl.OutDone, 0, 0, out(65535)},
		{"out first", allOfZero, "out 5 0 0.1", many(0), impl.OutDone, 0, 0, out(5)},
		{"out behind 38", allOfZero, "out 5 0 0.1", many(38), impl.OutDone, 0, 0, out(5)},
		{"out behind 39", allOfZero, "out 5 0 0.1", many(39), impl.OutDone, 0, 0, out(5)},
		{"out behind 40", allOfZero, "out 5 0 0.1", many(40), impl.OutDenied, 0, 0, nothing},
		{"out where it may not be seen", allOfZero, "out 5 0 0.1", device(2), impl.OutDenied, 0, 0, nothing},
		{"out where it may be read alone", allOfZero, "out 5 0 0.1", device(3), impl.OutDenied, 0, 0, nothing},
		{"out that is not known", "6: 017", "out 5 0 0.1", device(3), impl.OutMiss, 3, 0, nothing},
		{"out that is not known either", "6: 017", "out 5 0 0.1", device(2), impl.OutMiss, 2, 0, nothing},
		{"out by a word of another tag", "6: 035", "out 5 0 0.3", nil, impl.OutMiss, 1, 0, nothing},
		// Where there is no room nothing is asked for, so that it is no miss.
		{"out behind 40 that is not known", "6: 017", "out 5 0 0.1", full(3), impl.OutDenied, 0, 0, nothing},
		{"out behind 40 where it may not", allOfZero, "out 5 0 0.1", full(2), impl.OutDenied, 0, 0, nothing},
		{"out behind 40, its word not known", "6: 035", "out 5 0 0.1", full(3), impl.OutMiss, 1, 0, nothing},
		{"out behind 40, its word forbidden", allOfZero, "out 5 0 0.2", full(1), impl.OutDenied, 0, 0, nothing},
	})
}

// The word at Pc is asked for first, whatever its instruction asks for then, and a miss tells the tag of what was asked for.
func TestTryStepAsksInOrder(t *testing.T) {
	wantRows(t, []stepRow{
		{"nothing known", "0:", "load 1 1 0.1; 9.3", nil, impl.OutMiss, 1, 0, nothing},
		{"nothing known, room for much", "6:", "load 1 1 0.3; 9.1", nil, impl.OutMiss, 3, 0, nothing},
		{"the word known, the other not", "6: 017", "load 1 1 0.1; 9.3", nil, impl.OutMiss, 3, 0, nothing},
		{"the other known, the word not", "6: 035", "load 1 1 0.1; 9.3", nil, impl.OutMiss, 1, 0, nothing},
		{"both known", "6: 035 017", "load 1 1 0.1; 9.3", nil, impl.OutDone, 0, 0, next(func(c *impl.Context) { c.Regs[1] = 9 })},
		{"to store, the other not known", "6: 017", "store 1 1 0.1; 9.2", nil, impl.OutMiss, 2, 0, nothing},
		{"to store, the word not known", "6: 020", "store 1 1 0.1; 9.2", nil, impl.OutMiss, 1, 0, nothing},
		{"the word not known, the other nowhere", "6: 020", "store 1 7 0.1; 9.2", nil, impl.OutMiss, 1, 0, nothing},
		{"the word known, the other nowhere", "6: 017", "store 1 7 0.1; 9.2", nil, impl.OutDenied, 0, 0, nothing},
		{"the word forbidden, the other not known", "6: 020", "load 1 1 0.2; 9.1", nil, impl.OutDenied, 0, 0, nothing},
		{"the word forbidden, to be set", "6: 020", "set 1 1 0.2", nil, impl.OutDenied, 0, 0, nothing},
		{"the word forbidden, to be called", "6: 020", "call 1 1 9.2", nil, impl.OutDenied, 0, 0, nothing},
		{"the word not known, to be called", "6: 020", "call 1 1 9.1", nil, impl.OutMiss, 1, 0, nothing},
		{"the word forbidden, to be halted", "6: 020", "halt 0 0 0.2", nil, impl.OutDenied, 0, 0, nothing},
		{"the word not known, to be halted", "6: 020", "halt 0 0 0.1", nil, impl.OutMiss, 1, 0, nothing},
		{"the word not known, to be jumped", "6: 020", "jump 0 0 9.1", nil, impl.OutMiss, 1, 0, nothing},
		{"the word not known, of no kind", "6: 020", "bad11 0 0 0.1", nil, impl.OutMiss, 1, 0, nothing},
		{"the monitor's word not known", "6: 017 020 035", "set 1 0 5.0", nil, impl.OutMiss, 0, 0, nothing},
		{"the monitor's word known", allOfZero, "set 1 0 5.0", nil, impl.OutDenied, 0, 0, nothing},
		{"the monitor's word not known, to be loaded", "6: 017 020 035", "load 1 1 0.1; 9.0", nil, impl.OutMiss, 0, 0, nothing},
		{"the monitor's word not known, to be stored", "6: 017 020 035", "store 1 1 0.1; 9.0", nil, impl.OutMiss, 0, 0, nothing},
		{"what others know", "6: 115 217 317", "set 1 0 5.1", nil, impl.OutMiss, 1, 0, nothing},
		{"what others may", "6: 020 127 227 327", "set 1 0 5.2", nil, impl.OutDenied, 0, 0, nothing},
	})
}

// Kinds 11 to 15 do nothing that is allowed, whatever else is in them.
func TestTryStepOfNoKind(t *testing.T) {
	for op := int64(11); op <= 15; op++ {
		for _, rest := range []int64{0, 1, 63, 64, 512, 4095} {
			s := system(t, allOfZero, fmt.Sprintf("%d.1; 9.1", op*4096+rest))
			wantStep(t, fmt.Sprint("the word ", op*4096+rest), impl.TryStep(s), impl.StepResult{Kind: impl.OutDenied, System: s})
		}
	}
}

// A Pc at each place of memories of every length, and behind them: at the last place there is a word, behind it there is none.
func TestTryStepAtEachPc(t *testing.T) {
	for many := range 33 {
		words := slices.Repeat([]impl.Word{{Value: 4096 + 512 + 5, Tag: 1}}, many)
		for _, pc := range append([]int64{0, 1, 2, 31, 32, 33, 63, 64, 255, 256, 32767, 32768, 65534, 65535}, int64(max(0, many-1)), int64(many), int64(many+1)) {
			s := system(t, allOfZero, "0.1")
			s.Memory.Words = words
			who(&s).Pc = pc
			want := impl.StepResult{Kind: impl.OutDenied, System: s}
			if pc < int64(many) {
				want = impl.StepResult{Kind: impl.OutDone, System: turned(s, func(s *impl.System) { who(s).Pc, who(s).Regs[1] = pc+1, 5 })}
			}
			wantStep(t, fmt.Sprintf("at %d of %d words", pc, many), impl.TryStep(s), want)
			s.Cache = cache(t, "0:")
			want = impl.StepResult{Kind: impl.OutDenied, System: s}
			if pc < int64(many) {
				want.Kind, want.Tag = impl.OutMiss, 1
			}
			wantStep(t, fmt.Sprintf("at %d of %d words, nothing known", pc, many), impl.TryStep(s), want)
		}
	}
}

// Who is halted does nothing, wherever Pc is and whatever the cache knows.
func TestTryStepOfOneWhoIsHalted(t *testing.T) {
	for _, lines := range []string{"0:", "6:", allOfZero} {
		for _, pc := range []int64{0, 1, 2, 3, 4, 5, 65535} {
			for _, full := range []bool{false, true} {
				s := system(t, lines, "set 1 0 5.1; call 0 0 9.1; out 1 0 0.1; halt 0 0 0.2; bad11 0 0 0.0")
				who(&s).Pc, who(&s).Halted = pc, true
				if full {
					s.Out = make([]int64, 40)
				}
				wantStep(t, fmt.Sprintf("at %d with %q", pc, lines), impl.TryStep(s), impl.StepResult{Kind: impl.OutIdle, System: s})
			}
		}
	}
	// Others who are halted do not matter, and one who halts is halted then.
	s := system(t, allOfZero, "halt 0 0 0.1")
	s.Contexts[1].Halted, s.Contexts[2].Halted, s.Contexts[3].Halted = true, true, true
	first := impl.TryStep(s)
	wantStep(t, "others halted", first, plainStep(s))
	wantStep(t, "then halted", impl.TryStep(first.System), impl.StepResult{Kind: impl.OutIdle, System: first.System})
}

// wantKept asks what no step turns: marks, labels, the cache, who is active, the device, gates, and the others' contexts;
// and that nothing turns where a step is neither done nor a call.
func wantKept(t *testing.T, what string, s impl.System, got impl.StepResult) {
	t.Helper()
	kept := func(s impl.System) string {
		tags := []int64{}
		for _, w := range s.Memory.Words {
			tags = append(tags, w.Tag)
		}
		others := slices.Delete(slices.Clone(s.Contexts), int(s.Active), int(s.Active)+1)
		return fmt.Sprint(s.Tables, tags, s.Cache, s.Active, s.Device, s.Gates, others)
	}
	if kept(s) != kept(got.System) {
		t.Errorf("%s: of %v it made %v", what, s, got.System)
	}
	if got.Kind != impl.OutDone && got.Kind != impl.OutCall && told(s) != told(got.System) {
		t.Errorf("%s: %s, and %v became %v", what, kindTold(got.Kind), s, got.System)
	}
	if code := impl.SystemFault(got.System); code != impl.OK {
		t.Errorf("%s: the fault %d is left behind", what, code)
	}
}

// Every word there is, as an instruction of each domain, with what the cache knows of all, of some and of nothing.
func TestTryStepOfEachWord(t *testing.T) {
	bases := []impl.System{}
	for _, lines := range []string{"6: 000 017 020 035", "6: 100 115 127 135", "6: 200 217 227 235", "6: 300 317 327 337", "2: 017 217", "2: 127 317", "0:"} {
		bases = append(bases, system(t, lines, "0.1; 11.1; 12.2; 13.3; 14.0; 65535.1; 16.2; 17.3"))
	}
	eachWord(func(w int64) {
		s := cloneSystem(bases[w%7])
		at := w / 7 % 4
		s.Active, s.Device = w%4, 1+w/3%3
		s.Memory.Words[at].Value = w
		who(&s).Pc, who(&s).Regs = at, []int64{0, 65535, 3, 65530, 1, 32768, 5, 65475}
		if w%5 == 0 {
			s.Out = make([]int64, 39+w%2)
		}
		if w%7 < 4 {
			s.Active = w % 7
		}
		got := impl.TryStep(s)
		if want := plainStep(s); !sameStep(got, want) {
			wantStep(t, fmt.Sprintf("the word %d (%s) of domain %d with %s", w, plainText(inst(w)), s.Active, cacheTold(s.Cache)), got, want)
		}
		if w%11 == 0 {
			wantKept(t, fmt.Sprint("the word ", w), s, got)
		}
	})
}

// Every kind with each tag of its word, of what it asks for and of the device, and all that the cache can know of these.
func TestTryStepWithEachTag(t *testing.T) {
	base := system(t, "6:", "0.0; 9.0")
	lines := trueLines(base.Tables)
	for op := range int64(16) {
		for n := range int64(4 * 4 * 3 * 4) {
			first, second, device, domain := n%4, n/4%4, 1+n/16%3, n/48
			for known := range 16 {
				s := cloneSystem(base)
				s.Memory.Words = []impl.Word{{Value: op*4096 + 5*512 + 4*64, Tag: first}, {Value: 9, Tag: second}}
				s.Active, s.Device = domain, device
				who(&s).Regs[4] = 1
				for _, l := range lines {
					if l.Domain == domain && known>>l.Tag&1 == 1 {
						s.Cache.Lines = append(s.Cache.Lines, l)
					}
				}
				got, want := impl.TryStep(s), plainStep(s)
				if !sameStep(got, want) {
					wantStep(t, fmt.Sprintf("kind %d of domain %d, tags %d, %d and %d, cache %s", op, domain, first, second, device, cacheTold(s.Cache)), got, want)
				}
			}
		}
	}
}

// anySystem is one without a fault.
func anySystem(t *testing.T, source *rand.Rand, all []impl.Tables) impl.System {
	t.Helper()
	x := all[source.Intn(len(all))]
	words := make([]impl.Word, source.Intn(33))
	number := func() int64 {
		return []int64{source.Int63n(65536), source.Int63n(33), 65535 - source.Int63n(64), 0}[source.Intn(4)]
	}
	for place := range words {
		words[place] = impl.Word{Value: number(), Tag: source.Int63n(int64(len(x.Tags)) + 1)}
		if source.Intn(3) > 0 {
			words[place].Value = source.Int63n(65536)
		}
	}
	s := systemOf(x, words...)
	s.Active, s.Device = source.Int63n(int64(len(x.Domains))), 1+source.Int63n(int64(len(x.Tags)))
	for domain := range s.Contexts {
		c := &s.Contexts[domain]
		c.Pc, c.Halted = source.Int63n(int64(len(words)+2)), source.Intn(12) == 0
		for n := range c.Regs {
			c.Regs[n] = number()
		}
	}
	s.Cache.Size = source.Int63n(7)
	lines := trueLines(x)
	for _, n := range source.Perm(len(lines))[:source.Intn(1+min(int(s.Cache.Size), len(lines)))] {
		s.Cache.Lines = append(s.Cache.Lines, lines[n])
	}
	for range source.Intn(41) {
		s.Out = append(s.Out, number())
	}
	for range source.Intn(4) {
		s.Gates = append(s.Gates, impl.Gate{Domain: source.Int63n(int64(len(x.Domains))), Entry: number()})
	}
	return s
}

// runnable are the tables of which a system can be made.
func runnable(t *testing.T) []impl.Tables {
	t.Helper()
	list := []impl.Tables{tables(t, machineTables)}
	for _, text := range goodTables() {
		if x := tables(t, text); len(x.Tags) > 0 && len(x.Domains) > 0 {
			list = append(list, x)
		}
	}
	return list
}

// Steps one behind the other, of systems of all kinds, where what was missed is filled as the labels tell it.
func TestTryStepAgainAndAgain(t *testing.T) {
	source, all := rand.New(rand.NewSource(7)), runnable(t)
	kinds := map[int64]int{}
	for range 4000 {
		s := anySystem(t, source, all)
		s.Cache.Size = max(2, s.Cache.Size)
		for range 8 {
			got := impl.TryStep(s)
			wantStep(t, "a step", got, plainStep(s))
			wantKept(t, "a step", s, got)
			kinds[got.Kind]++
			s = got.System
			if got.Kind == impl.OutMiss {
				perm := impl.PermOf(s.Tables, s.Active, got.Tag).Value
				s.Cache = impl.FillCache(s.Cache, impl.Line{Domain: s.Active, Tag: got.Tag, Perm: perm}, 0).Cache
			} else if got.Kind != impl.OutDone && got.Kind != impl.OutCall {
				break
			}
		}
		if t.Failed() {
			return
		}
	}
	for _, kind := range []int64{impl.OutDone, impl.OutMiss, impl.OutDenied, impl.OutCall, impl.OutIdle} {
		if kinds[kind] < 20 {
			t.Errorf("too few steps that are %s: %d", kindTold(kind), kinds[kind])
		}
	}
}

// A small program to its end: it sums 3, 2 and 1 in a loop, and lets the sum go out.
func TestTryStepOfAProgram(t *testing.T) {
	s := system(t, allOfZero, "set 1 0 3.1; set 2 0 0.1; set 3 0 1.1; zero 1 0 7.1; add 2 1 0.1; sub 1 3 0.1; jump 0 0 3.1; store 2 0 10.1; out 2 0 0.1; halt 0 0 0.1; 0.1")
	steps := 0
	// More steps than it takes, so that a jump that goes wrong ends, too.
	for got := impl.TryStep(s); got.Kind == impl.OutDone && steps < 100; got = impl.TryStep(s) {
		s = got.System
		steps++
	}
	if !slices.Equal(s.Out, []int64{7, 65535, 6}) || s.Memory.Words[10] != (impl.Word{Value: 6, Tag: 1}) || !who(&s).Halted || who(&s).Pc != 9 || steps != 19 {
		t.Errorf("behind %d steps: %v", steps, s)
	}
	wantStep(t, "behind its end", impl.TryStep(s), impl.StepResult{Kind: impl.OutIdle, System: s})
}
