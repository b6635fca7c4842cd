package tests

// Promise 15: where nobody owns anything, a step of who is not below a label turns nothing that the label sees; two systems that differ
// at most in what a label does not see of words, contexts and Out, and in their caches, are the same to it behind a step of who is below
// it, too; what a label sees a greater one sees as well.

import (
	"fmt"
	"math/rand"
	"slices"
	"testing"

	"loop.example/g00530/impl"
)

// The kernel of a bench, of which it is tried what is seen.
func TestBenchKernel(t *testing.T) {
	first, second := impl.NewBench(), impl.NewBench()
	if want := kernel(t, "box -1 0 1111 100 1"); first.Code != impl.OK || !sameKernel(first.Bench.Kernel, want) {
		t.Errorf("code %d, %v; want %v", first.Code, first.Bench.Kernel, want)
	}
	wantApart(t, "a bench", first, second)
}

// seenBase has words of each tag, the monitor's among them, some of them 0, and the domains "1111", "1311", "1*11" and "****".
func seenBase(t *testing.T) impl.System {
	t.Helper()
	s := system(t, "6: 000 017 115", "5.1; 9.2; 7.3; 8.0; 0.1; 0.2; 0.3; 0.0; 65535.2")
	for domain := range s.Contexts {
		s.Contexts[domain].Pc, s.Contexts[domain].Halted = int64(10+domain), domain%2 == 1
	}
	return s
}

// seenRow is a label, the words and the labels that it sees, and whether it sees Out; of a context it is told with the label.
type seenRow struct {
	by, words, labels string
	out               bool
}

func seenRows() []seenRow {
	none := "0.0 0.0 0.0 0.0 0.0 0.0 0.0 0.0 0.0"
	some := "5.1 0.0 7.3 0.0 0.1 0.0 0.3 0.0 0.0"
	least := "0.0 0.0 7.3 0.0 0.0 0.0 0.3 0.0 0.0"
	all := "5.1 9.2 7.3 0.0 0.1 0.2 0.3 0.0 65535.2"
	return []seenRow{
		// The least, some in the midst, and the greatest.
		{"0000", least, "- - - ****", false}, {"1111", some, "1111 - 1*11 ****", true}, {"3333", all, "1111 1311 1*11 ****", true}, {"JJJJ", all, "1111 1311 1*11 ****", true},
		{"2222", some, "1111 - 1*11 ****", true}, {"1311", all, "1111 1311 1*11 ****", true}, {"1211", some, "1111 - 1*11 ****", true}, {"1J11", all, "1111 1311 1*11 ****", true}, {"3233", some, "1111 - 1*11 ****", true},
		// One level less in one category.
		{"0311", least, "- - - ****", false}, {"1011", least, "- - 1*11 ****", false}, {"1301", least, "- - - ****", false}, {"1310", least, "- - - ****", false}, {"0333", least, "- - - ****", false}, {"JJJ0", least, "- - - ****", false},
		// A label that owns something sees no thing, as none has a star; it sees who owns as much.
		{"****", none, "- - - ****", false}, {"1*11", none, "- - 1*11 ****", false}, {"3*33", none, "- - 1*11 ****", false}, {"*333", none, "- - - ****", false}, {"333*", none, "- - - ****", false}, {"J*JJ", none, "- - 1*11 ****", false}, {"0*11", none, "- - - ****", false},
	}
}

func TestSeenByRows(t *testing.T) {
	base := seenBase(t)
	for _, row := range seenRows() {
		want := impl.Seen{Words: memory(t, row.words).Words, Labels: labels(t, row.labels), Contexts: make([]impl.Context, 4)}
		for domain, l := range want.Labels {
			if len(l.Levels) > 0 {
				want.Contexts[domain] = base.Contexts[domain]
			}
		}
		if row.out {
			want.Out = base.Out
		}
		l := label(t, row.by)
		wantSeen(t, row.by, impl.SeenBy(base, l), want)
		wantSeenOf(t, base, l)
		// Whoever is active is seen as any other, and neither the cache nor gates are seen.
		for active := range int64(4) {
			s := turned(base, func(s *impl.System) { s.Active, s.Cache, s.Gates = active, impl.Cache{}, nil })
			wantSeen(t, fmt.Sprintf("%s of %d active", row.by, active), impl.SeenBy(s, l), want)
		}
	}
}

// Of Out all is seen, or nothing, by the label of the Device's tag.
func TestSeenByOut(t *testing.T) {
	for _, row := range []struct {
		device int64
		by     string
		seen   bool
	}{
		{1, "1111", true}, {1, "3333", true}, {1, "1110", false}, {1, "0111", false}, {1, "3*33", false}, {2, "1311", true}, {2, "1211", false}, {2, "1111", false}, {2, "1J11", true}, {2, "3333", true}, {3, "0000", true}, {3, "1111", true}, {3, "*000", false}, {3, "000*", false},
	} {
		for _, many := range []int{0, 1, 2, 39, 40} {
			s := seenBase(t)
			s.Device, s.Out = row.device, dataOf(rand.New(rand.NewSource(150)), int64(many))
			want := []int64{}
			if row.seen {
				want = s.Out
			}
			if got := impl.SeenBy(s, label(t, row.by)); got.Code != impl.OK || !slices.Equal(got.Seen.Out, want) {
				t.Errorf("device %d by %s: code %d, %v; want %v", row.device, row.by, got.Code, got.Seen.Out, want)
			}
		}
	}
}

// For each thing's label: at it, and by one level off it in one category. What is one level above the label is hidden, all else is seen.
func TestSeenByOneLevel(t *testing.T) {
	eachThing(func(what impl.Label) {
		x := impl.Tables{Registry: impl.Registry{Slots: []impl.Slot{{Count: 2, Label: what}}}, Tags: []int64{0}, Domains: []int64{0}}
		s := systemOf(x, impl.Word{Value: 9, Tag: 1}, impl.Word{Tag: 1}, impl.Word{Value: 8})
		s.Out = []int64{7}
		all := impl.Seen{Words: []impl.Word{{Value: 9, Tag: 1}, {Tag: 1}, {}}, Contexts: s.Contexts, Labels: []impl.Label{what}, Out: []int64{7}}
		hidden := impl.Seen{Words: make([]impl.Word, 3), Contexts: make([]impl.Context, 1), Labels: make([]impl.Label, 1)}
		wantSeen(t, "at it", impl.SeenBy(s, what), all)
		for category := range 4 {
			above, below := slices.Clone(what.Levels), slices.Clone(what.Levels)
			above[category]++
			below[category]--
			wantSeen(t, fmt.Sprint(what, " by ", above), impl.SeenBy(s, labelOf(above...)), all)
			wantSeen(t, fmt.Sprint(what, " by ", below), impl.SeenBy(s, labelOf(below...)), hidden)
		}
	})
}

// Each label, of systems of all kinds.
func TestSeenByEachLabel(t *testing.T) {
	systems := []impl.System{seenBase(t), sevenTags(t, "5.1; 6.2; 7.3; 8.4; 9.5; 10.6; 11.0"), impl.NewBench().Bench.System, systemOf(tables(t, "1:2222 1:**** 1:1*11 1:*111 1:3210 1:0123 1:3333 1:0000 1:1311 1:1111 | 9 8 7 6 5 4 | 3 2 1 0"), impl.Word{Value: 1, Tag: 6})}
	eachLabel(func(l impl.Label) {
		for _, s := range systems {
			wantSeenOf(t, s, l)
			wantQuiet(t, "each label", s, l, plainQuiet(s, l))
		}
	})
}

func TestSeenByOfManySystems(t *testing.T) {
	for _, s := range wholes(t) {
		for n, l := range sights(t) {
			if n%3 == len(s.Out)%3 {
				wantSeenOf(t, s, l)
			}
		}
	}
	source, all := rand.New(rand.NewSource(151)), runnable(t)
	hidden, shown := map[string]int{}, map[string]int{}
	for range 4000 {
		s, l := anySystem(t, source, all), anyWhich(source, 0, 5)
		if source.Intn(2) == 0 {
			l = anyWhich(source, 2, 4)
		}
		seen := wantSeenOf(t, s, l)
		for place, w := range s.Memory.Words {
			countSeen(seen.Words[place] == w, "word", shown, hidden)
		}
		for domain := range s.Contexts {
			countSeen(len(seen.Contexts[domain].Regs) == 8, "context", shown, hidden)
			countSeen(len(seen.Labels[domain].Levels) == 4, "label", shown, hidden)
			countSeen(len(seen.Contexts[domain].Regs) == 8 && int64(domain) == s.Active, "active", shown, hidden)
		}
		if len(s.Out) > 0 {
			countSeen(len(seen.Out) > 0, "out", shown, hidden)
		}
		if t.Failed() {
			return
		}
	}
	for _, part := range []string{"word", "context", "label", "active", "out"} {
		if shown[part] < 500 || hidden[part] < 500 {
			t.Errorf("too few of %s: %d seen and %d hidden", part, shown[part], hidden[part])
		}
	}
}

// countSeen counts a part as seen or hidden.
func countSeen(isSeen bool, part string, shown, hidden map[string]int) {
	if isSeen {
		shown[part]++
	} else {
		hidden[part]++
	}
}

// What is hidden turns nothing of what is seen, and what is seen that turns does.
func TestSeenByHangsOnWhatIsSeenAlone(t *testing.T) {
	base := seenBase(t)
	for _, l := range sights(t) {
		seen := impl.SeenBy(base, l).Seen
		for _, x := range hiddenTurns(base, l) {
			wantSameSeen(t, x.name, impl.SeenBy(turned(base, x.turn), l).Seen, seen, true)
		}
		tags := hiddenTags(base.Tables, l)
		for place, w := range base.Memory.Words {
			now := impl.SeenBy(turned(base, func(s *impl.System) { s.Memory.Words[place].Value ^= 1 }), l).Seen
			wantSameSeen(t, fmt.Sprint("word ", place), now, seen, slices.Contains(tags, w.Tag))
		}
		for domain := range base.Contexts {
			hidden := slices.Contains(hiddenDomains(base.Tables, l), domain)
			for _, turn := range []func(c *impl.Context){func(c *impl.Context) { c.Regs[7]++ }, func(c *impl.Context) { c.Pc++ }, func(c *impl.Context) { c.Halted = !c.Halted }} {
				now := impl.SeenBy(turned(base, func(s *impl.System) { turn(&s.Contexts[domain]) }), l).Seen
				wantSameSeen(t, fmt.Sprint("context ", domain), now, seen, hidden)
			}
		}
		now := impl.SeenBy(turned(base, func(s *impl.System) { s.Out[1]-- }), l).Seen
		wantSameSeen(t, "out", now, seen, slices.Contains(tags, base.Device))
	}
}

func TestSameSeenOfOneThatDiffers(t *testing.T) {
	base := impl.SeenBy(seenBase(t), label(t, "3333")).Seen
	wantSameSeen(t, "itself", base, base, true)
	wantSameSeen(t, "a clone", base, cloneSeen(base), true)
	turns := seenTurns(base)
	for n, x := range turns {
		other := turnedSeen(base, x.turn)
		wantSameSeen(t, x.name, base, other, false)
		wantSameSeen(t, x.name+", both", other, cloneSeen(other), true)
		another := turns[(n+1)%len(turns)]
		wantSameSeen(t, x.name+" and "+another.name, other, turnedSeen(base, another.turn), false)
	}
}

// Rows that are nil and rows that are empty are the same; a row of nothing is not the same as no row.
func TestSameSeenOfNothing(t *testing.T) {
	empty := impl.Seen{Words: []impl.Word{}, Contexts: []impl.Context{}, Labels: []impl.Label{}, Out: []int64{}}
	wantSameSeen(t, "nothing", impl.Seen{}, impl.Seen{}, true)
	wantSameSeen(t, "nothing and empty lists", impl.Seen{}, empty, true)
	wantSameSeen(t, "empty rows", impl.Seen{Contexts: []impl.Context{{Regs: []int64{}}}, Labels: []impl.Label{{Levels: []int64{}}}}, impl.Seen{Contexts: make([]impl.Context, 1), Labels: make([]impl.Label, 1)}, true)
	for name, x := range map[string]impl.Seen{"a word": {Words: make([]impl.Word, 1)}, "a context": {Contexts: make([]impl.Context, 1)}, "a label": {Labels: make([]impl.Label, 1)}, "a number": {Out: make([]int64, 1)}} {
		wantSameSeen(t, name, x, impl.Seen{}, false)
		wantSameSeen(t, name+", both", x, cloneSeen(x), true)
	}
	wantSameSeen(t, "a word for its tag", impl.Seen{Words: []impl.Word{{Value: 1}}}, impl.Seen{Words: []impl.Word{{Tag: 1}}}, false)
}

func TestSameSeenOfEachPair(t *testing.T) {
	list, names := []impl.Seen{}, []string{}
	for n, s := range append(goodSystems(t), seenBase(t)) {
		for m, l := range sights(t) {
			if (n+m)%7 == 0 {
				seen := impl.SeenBy(s, l).Seen
				list, names = append(list, seen), append(names, told(seen))
			}
		}
	}
	for n, a := range list {
		for m, b := range list {
			wantSameSeen(t, names[n]+" and "+names[m], a, b, names[n] == names[m])
		}
	}
}

// Who owns: nobody, one domain alone, the first, the last, the running one, and all; by what label is a matter of its own.
func TestIsQuietRows(t *testing.T) {
	for _, row := range []struct {
		tables string
		quiet  bool
	}{
		{"2:1111 2:1311 | 0 1 | 0 1", true}, {"5:1111 | 0 | 0 0 0 0", true}, {"2:3333 | 0 | 0", true}, {"1:0000 1:0123 1:3210 1:3333 1:1111 | 0 | 1 2 3 4", true},
		{"1:1111 1:*111 | 0 | 1", false}, {"1:1111 1:1*11 | 0 | 1", false}, {"1:1111 1:11*1 | 0 | 1", false}, {"1:1111 1:111* | 0 | 1", false}, {"1:1111 1:**** | 0 | 1", false},
		{"4:1111 1:*111 | 0 | 1 0 0 0", false}, {"4:1111 1:1*11 | 0 | 0 1 0 0", false}, {"4:1111 1:11*1 | 0 | 0 0 1 0", false}, {"4:1111 1:111* | 0 | 0 0 0 1", false}, {"1:1111 4:3*33 | 0 | 1 1 1 1", false},
		{"2:1111 1:*333 1:333* | 0 | 0 1 2", false}, {"2:1111 - 1:**** | 0 | 0 2", false}, {"2:1111 2:1*11 | 0 | 0 1 1", false},
	} {
		s := systemOf(tables(t, row.tables), impl.Word{Value: 9, Tag: 1})
		for active := range s.Contexts {
			s.Active = int64(active)
			for _, l := range sights(t) {
				isThing := plainThingFault(l) == impl.OK
				wantQuiet(t, row.tables, s, l, row.quiet && isThing)
				wantQuiet(t, row.tables+", with a cache", withCaches(s)[2], l, row.quiet && isThing)
			}
		}
	}
}

// A label with a star or a top anywhere is no thing's.
func TestIsQuietByEachLabel(t *testing.T) {
	s := impl.NewBench().Bench.System
	for _, l := range append(notThings(t), topLabels(t)...) {
		wantQuiet(t, "no thing's label", s, l, false)
	}
	eachThing(func(l impl.Label) { wantQuiet(t, "a thing's label", s, l, true) })
}

// eachQuietStep goes through steps of all kinds of systems where nobody owns anything, each with several caches; who is the label of the
// domain that does the step.
func eachQuietStep(t *testing.T, visit func(name string, s impl.System, who impl.Label)) {
	t.Helper()
	for _, x := range quietTables(t)[:4] {
		for _, step := range quietSteps(t, x) {
			who := holdingOf(x).domains[step.system.Active]
			wantQuiet(t, step.name, step.system, label(t, "1111"), true)
			for _, s := range withCaches(step.system) {
				visit(step.name, s, who)
			}
		}
	}
}

// turnedParts are which parts of a system a step turned, whoever sees them.
func turnedParts(was, now impl.System, parts map[string]int) {
	count := func(part string, so bool) {
		if so {
			parts[part]++
		}
	}
	count("nothing", impl.SameArchs(was, now))
	for place, w := range was.Memory.Words {
		count("tag", w.Tag != now.Memory.Words[place].Tag)
		count("value", w.Value != now.Memory.Words[place].Value)
	}
	a, b := holdingOf(was.Tables), holdingOf(now.Tables)
	for domain := range was.Contexts {
		isOther, isOwn := !impl.SameContexts(was.Contexts[domain], now.Contexts[domain]), int64(domain) == was.Active
		count("own context", isOther && isOwn)
		count("other context", isOther && !isOwn)
		count("label", !sameLabel(a.domains[domain], b.domains[domain]))
	}
	count("out", len(was.Out) != len(now.Out))
}

func wantParts(t *testing.T, what string, parts map[string]int, least int) {
	t.Helper()
	for _, part := range []string{"nothing", "tag", "value", "own context", "other context", "label", "out"} {
		if parts[part] < least {
			t.Errorf("%s: too few steps that turned %s: %v", what, part, parts)
		}
	}
}

// The first part of the promise: who is not below a label turns what it likes, and the label sees nothing of that.
func TestStepOfWhoIsNotBelowIsNotSeen(t *testing.T) {
	sights, parts, asked := fewSights(t), map[string]int{}, 0
	eachQuietStep(t, func(name string, s impl.System, who impl.Label) {
		got := impl.StepSystem(s, 1)
		isAsked := false
		for _, l := range sights {
			if !plainAbove(who, l) {
				continue
			}
			isAsked = true
			asked++
			was, now := impl.SeenBy(s, l), impl.SeenBy(got.System, l)
			if got.Code != impl.OK || was.Code != impl.OK || now.Code != impl.OK || !impl.SameSeen(was.Seen, now.Seen) {
				t.Errorf("%s: %v sees %v, and then %v", name, l.Levels, was, now)
			}
		}
		if isAsked {
			turnedParts(s, got.System, parts)
		}
	})
	wantParts(t, "of who is not below", parts, 10)
	if asked < 10000 {
		t.Errorf("%d asked", asked)
	}
}

// The greatest label, which all are below, sees whatever a step turns: no step turns what is the monitor's.
func TestStepIsSeenByTheGreatest(t *testing.T) {
	greatest := label(t, "3333")
	eachQuietStep(t, func(name string, s impl.System, who impl.Label) {
		now := impl.StepSystem(s, 1).System
		wantSameSeen(t, name, impl.SeenBy(s, greatest).Seen, impl.SeenBy(now, greatest).Seen, impl.SameArchs(s, now))
	})
}

// The second part: what the label does not see, one thing at a time, and then all of it as it comes, turns nothing of what it sees behind a
// step of who is below it; and what the step is, is the same.
func TestStepOfWhoIsBelowIsTheSame(t *testing.T) {
	source, sights := rand.New(rand.NewSource(152)), fewSights(t)
	asked, other := 0, 0
	eachQuietStep(t, func(name string, s impl.System, who impl.Label) {
		for _, l := range sights {
			if plainAbove(who, l) || source.Intn(4) > 0 {
				continue
			}
			got := impl.StepSystem(s, 1)
			seen := impl.SeenBy(got.System, l)
			turns := hiddenTurns(s, l)
			for range 3 {
				x := turns[source.Intn(len(turns))]
				wantSameStep(t, name+", "+x.name, turned(s, x.turn), l, got, seen)
			}
			all := turned(s, func(s *impl.System) { hideOther(s, l, source) })
			wantSameStep(t, name+", all", all, l, got, seen)
			asked++
			if !impl.SameArchs(s, all) {
				other++
			}
		}
	})
	if asked < 3000 || other < 2000 {
		t.Errorf("%d asked, %d of others", asked, other)
	}
}

// wantSameStep asks of one that differs in what is hidden alone, or in its cache, that a step of it is the same to the label.
func wantSameStep(t *testing.T, what string, other impl.System, l impl.Label, got impl.WholeResult, seen impl.SeenResult) {
	t.Helper()
	step := impl.StepSystem(other, 7)
	now := impl.SeenBy(step.System, l)
	if step.Code != got.Code || step.Kind != got.Kind || step.System.Active != got.System.Active || now.Code != seen.Code || !impl.SameSeen(now.Seen, seen.Seen) {
		t.Errorf("%s: by %v %s, %v; want %s, %v", what, l.Levels, kindTold(step.Kind), now, kindTold(got.Kind), seen)
	}
	if !slices.Equal(step.System.Tables.Domains, got.System.Tables.Domains) || !slices.Equal(step.System.Gates, got.System.Gates) {
		t.Errorf("%s: by %v the domains are %v and the gates %v; want %v and %v", what, l.Levels, step.System.Tables.Domains, step.System.Gates, got.System.Tables.Domains, got.System.Gates)
	}
}

// Each hidden thing alone, for steps that ask for words, marks, gates and the device.
func TestStepWhereOneHiddenThingDiffers(t *testing.T) {
	x, asked := quietTables(t)[1], 0
	for n, step := range quietSteps(t, x) {
		for m, l := range fewSights(t) {
			if (n+m)%5 > 0 || plainAbove(holdingOf(x).domains[step.system.Active], l) {
				continue
			}
			got := impl.StepSystem(step.system, 1)
			seen, was := impl.SeenBy(got.System, l), impl.SeenBy(step.system, l)
			for _, turn := range hiddenTurns(step.system, l) {
				other := turned(step.system, turn.turn)
				wantSeen(t, step.name+", "+turn.name, impl.SeenBy(other, l), was.Seen)
				wantSameStep(t, step.name+", "+turn.name, other, l, got, seen)
				asked++
			}
		}
	}
	if asked < 3000 {
		t.Errorf("%d asked", asked)
	}
}

// Both parts, step by step: programs that go on, each domain in turn, beside another system that differs in what is hidden; at each step
// what is hidden is turned anew.
func TestStepsOneBehindTheOther(t *testing.T) {
	source, all := rand.New(rand.NewSource(153)), quietTables(t)
	parts, below, above := map[string]int{}, 0, 0
	for range 3000 {
		s, l := busy(t, source, all), fewSights(t)[source.Intn(8)]
		for range 12 {
			if source.Intn(3) == 0 {
				s.Active = source.Int63n(int64(len(s.Contexts)))
			}
			other := turned(s, func(s *impl.System) { hideOther(s, l, source) })
			isAbove := plainAbove(holdingOf(s.Tables).domains[s.Active], l)
			was, got := impl.SeenBy(s, l), impl.StepSystem(s, source.Int63n(9))
			seen := impl.SeenBy(got.System, l)
			wantSeen(t, "one that differs in what is hidden", impl.SeenBy(other, l), was.Seen)
			if isAbove {
				above++
				wantSeen(t, "behind a step of who is not below", seen, was.Seen)
				wantSeen(t, "behind a step of who is not below, of the other one", impl.SeenBy(impl.StepSystem(other, 0).System, l), was.Seen)
			} else {
				below++
				wantSameStep(t, "a step of who is below", other, l, got, seen)
			}
			if t.Failed() {
				return
			}
			turnedParts(s, got.System, parts)
			s = got.System
		}
	}
	wantParts(t, "one behind the other", parts, 30)
	if below < 5000 || above < 5000 {
		t.Errorf("%d steps of who is below, %d of who is not", below, above)
	}
}

// The promise speaks of where nobody owns anything, as one who owns may tell what it reads: behind its step two systems are others to a label
// to which they were the same.
func TestStepOfWhoOwnsIsSeen(t *testing.T) {
	s := systemOf(tables(t, "1:1111 1:1311 1:1*11 | 0 1 | 2"), impl.Word{Tag: 1}, impl.Word{Tag: 2})
	s.Contexts[0].Regs[5], s.Contexts[0].Regs[0] = 0, 0
	s.Memory.Words[0].Value = plainWord(t, "load 5 0 1")
	other := turned(s, func(s *impl.System) { s.Memory.Words[1].Value = 9 })
	l := label(t, "1111")
	wantQuiet(t, "one owns", s, l, false)
	wantSameSeen(t, "ahead of the step", impl.SeenBy(s, l).Seen, impl.SeenBy(other, l).Seen, true)
	wantSameSeen(t, "behind the step", impl.SeenBy(impl.StepSystem(s, 0).System, l).Seen, impl.SeenBy(impl.StepSystem(other, 0).System, l).Seen, false)
}

// pairsOfSights are labels of which the first is below the second one.
func pairsOfSights(t *testing.T) [][2]impl.Label {
	t.Helper()
	list := [][2]impl.Label{}
	for _, a := range sights(t) {
		for _, b := range sights(t) {
			if !plainAbove(a, b) {
				list = append(list, [2]impl.Label{a, b})
			}
		}
	}
	return list
}

// wantSeenToo asks that all of what is seen by one is seen by a greater one, at the same places.
func wantSeenToo(t *testing.T, what string, less, more impl.Seen) {
	t.Helper()
	lost := len(less.Words) != len(more.Words) || len(less.Contexts) != len(more.Contexts) || len(less.Labels) != len(more.Labels)
	for place := range less.Words {
		lost = lost || less.Words[place].Tag != 0 && less.Words[place] != more.Words[place]
	}
	for domain := range less.Contexts {
		lost = lost || len(less.Contexts[domain].Regs) > 0 && !impl.SameContexts(less.Contexts[domain], more.Contexts[domain])
		lost = lost || len(less.Labels[domain].Levels) > 0 && !sameLabel(less.Labels[domain], more.Labels[domain])
	}
	if lost || len(less.Out) > 0 && !slices.Equal(less.Out, more.Out) {
		t.Errorf("%s: the less sees %v, the greater %v", what, less, more)
	}
}

// The third part, for words, contexts, labels and Out.
func TestWhatALabelSeesAGreaterOneSees(t *testing.T) {
	systems, more := []impl.System{seenBase(t), sevenTags(t, "5.1; 6.2; 7.3; 8.4; 9.5; 10.6; 11.0")}, 0
	for _, x := range quietTables(t) {
		systems = append(systems, quietBase(x, 0))
	}
	for _, s := range systems {
		for _, pair := range pairsOfSights(t) {
			a, b := impl.SeenBy(s, pair[0]).Seen, impl.SeenBy(s, pair[1]).Seen
			wantSeenToo(t, fmt.Sprint(pair), a, b)
			if !impl.SameSeen(a, b) {
				more++
			}
		}
	}
	source, all := rand.New(rand.NewSource(154)), runnable(t)
	for range 3000 {
		s, b := anySystem(t, source, all), anyWhich(source, 0, 5)
		a := anyBelow(source, b)
		wantSeenToo(t, fmt.Sprint(a, b), impl.SeenBy(s, a).Seen, impl.SeenBy(s, b).Seen)
	}
	if more < 200 {
		t.Errorf("only %d greater ones see more", more)
	}
}

// kernelSeenRow is a kernel, a label, and what it sees of it.
type kernelSeenRow struct {
	kernel, by, seen string
}

func kernelSeenRows() []kernelSeenRow {
	first, moved := "box -1 0 1111 100 9", "box -1 0 1111 100 9; text 0 1 1311 5; box 0 2 1111 40 9; box 2 1 1111 20 5; text 3 1 1111 3 7; text 2 2 1111 1; text 3 4 1311 2"
	return []kernelSeenRow{
		// All seen, none seen, the first one alone.
		{standardKernel, "3333", standardKernel}, {standardKernel, "JJJJ", standardKernel}, {standardKernel, "0333", ""}, {standardKernel, "3330", ""}, {standardKernel, "*333", ""}, {standardKernel, "****", ""}, {first, "1111", first}, {first, "1101", ""}, {first, "11*1", ""},
		{standardKernel, "1111", first + "; text 0 2 1111 5 7 8"}, {standardKernel, "1211", first + "; text 0 2 1111 5 7 8"},
		{standardKernel, "1311", first + "; box 0 4 1311 40 9; text 0 2 1111 5 7 8; box 1 5 1311 20 9"},
		{standardKernel, "1333", first + "; box 0 4 1311 40 9; text 0 2 1111 5 7 8; box 1 5 1311 20 9; box 0 7 0123 9 1"},
		{standardKernel, "2322", first + "; box 0 4 1311 40 9; text 0 2 1111 5 7 8; box 1 5 1311 20 9; text 3 8 2222 3"},
		{standardKernel, "2323", first + "; box 0 4 1311 40 9; text 0 2 1111 5 7 8; box 1 5 1311 20 9; text 3 8 2222 3; box 0 7 0123 9 1"},
		// What is below the label in a box that is not: its text "2222" is hidden with the boxes that it is in.
		{standardKernel, "2222", first + "; text 0 2 1111 5 7 8"},
		{"box -1 0 1111 100 9; box 0 1 3333 50 9; text 1 1 0000 5 7", "1111", first}, {"box -1 0 1111 100 9; box 0 1 1211 50 9; text 1 1 1111 5 7", "1111", first}, {"box -1 0 1211 100 9; box 0 1 1111 50 9; text 1 1 0000 5 7", "1111", ""},
		{"box -1 0 0000 100 9; box 0 1 0000 50 9; box 1 1 1111 40 9; box 2 1 0000 30 9; text 3 1 0000 5 7; text 1 2 0000 1", "0000", "box -1 0 0000 100 9; box 0 1 0000 50 9; text 1 2 0000 1"},
		// A box whose place is another one in the list, with a box and texts in it.
		{moved, "1111", "box -1 0 1111 100 9; box 0 2 1111 40 9; box 1 1 1111 20 5; text 2 1 1111 3 7; text 1 2 1111 1"}, {moved, "1311", moved},
		{"box -1 0 1111 100 9; box 0 1 1311 20 9; box 1 1 1111 9 9; text 2 1 1111 1; box 0 3 1111 20 3; box 4 1 1311 9 1; box 4 2 1111 3 2; text 6 1 1111 1 5", "2222", "box -1 0 1111 100 9; box 0 3 1111 20 3; box 1 2 1111 3 2; text 2 1 1111 1 5"},
		// The last one of a deep row, and the first one of a wide one.
		{deepKernel(), "1111", deepKernel()}, {deepKernel(), "1110", ""}, {wideKernel(), "1111", wideKernel()},
		{mixedKernel, "1111", "box -1 0 1111 200 100; text 0 3 1111 5 1 2 3; text 0 99 0000 0"},
		{mixedKernel, "1123", "box -1 0 1111 200 100; text 0 3 1111 5 1 2 3; text 0 99 0000 0; box 0 1 0123 105 3; text 3 1 1111 100; text 3 2 1111 5 1 1 1 1 1"},
	}
}

// seenKernel reads what is seen as a kernel, or nothing.
func seenKernel(t *testing.T, text string) []impl.Object {
	t.Helper()
	if text == "" {
		return nil
	}
	return kernel(t, text).Objects
}

func TestKernelSeenRows(t *testing.T) {
	for _, row := range kernelSeenRows() {
		wantObjects(t, row.by+" of "+row.kernel, impl.KernelSeen(kernel(t, row.kernel), label(t, row.by)), seenKernel(t, row.seen))
		wantObjectsOf(t, kernel(t, row.kernel), label(t, row.by))
	}
}

// For each thing's label: an object at it, and by one level off it in one category, alone and in a box, is seen or hidden with what is in it.
func TestKernelSeenOneLevel(t *testing.T) {
	least := label(t, "0000")
	eachThing(func(what impl.Label) {
		k := kernel(t, "box -1 0 0000 100 9; box 0 1 0000 50 9; text 1 1 0000 5 7; text 0 2 0000 1")
		k.Objects[1].Label = what
		alone := impl.Kernel{Objects: []impl.Object{{Up: -1, Kind: 1, Label: what, Quota: 9, Next: 1}}}
		hidden := turnedKernel(k, func(k *impl.Kernel) { k.Objects = slices.Delete(k.Objects, 1, 3) }).Objects
		wantObjects(t, "at it", impl.KernelSeen(k, what), k.Objects)
		for category := range 4 {
			above, below := slices.Clone(what.Levels), slices.Clone(what.Levels)
			above[category]++
			below[category]--
			wantObjects(t, fmt.Sprint(what, " by ", above), impl.KernelSeen(k, labelOf(above...)), k.Objects)
			wantObjects(t, fmt.Sprint(what, " by ", below), impl.KernelSeen(alone, labelOf(below...)), nil)
			if plainAbove(least, labelOf(below...)) {
				wantObjects(t, fmt.Sprint(what, " by ", below), impl.KernelSeen(k, labelOf(below...)), nil)
			} else {
				wantObjects(t, fmt.Sprint(what, " by ", below), impl.KernelSeen(k, labelOf(below...)), hidden)
			}
		}
	})
}

func TestKernelSeenByEachLabel(t *testing.T) {
	kernels := []impl.Kernel{kernel(t, standardKernel), kernel(t, mixedKernel)}
	eachLabel(func(l impl.Label) {
		for _, k := range kernels {
			wantObjectsOf(t, k, l)
		}
	})
}

// What is seen is a kernel without a fault, or nothing; each object of it is found by the path that it has in the whole; who sees less of the
// whole sees as much of what a greater one sees.
func TestKernelSeenIsAKernel(t *testing.T) {
	source, shown, some := rand.New(rand.NewSource(155)), 0, 0
	for range 3000 {
		k := anyKernel(source, 1+source.Intn(12))
		b := []impl.Label{anyWhich(source, 0, 5), anyWhich(source, 3, 4)}[source.Intn(2)]
		for place := range k.Objects {
			if source.Intn(3) > 0 {
				k.Objects[place].Label = anyWhich(source, 1, 3)
			}
		}
		a := []impl.Label{anyBelow(source, b), b}[source.Intn(2)]
		less, more := wantObjectsOf(t, k, a), wantObjectsOf(t, k, b)
		if len(more) == 0 {
			wantObjects(t, "the less of nothing", impl.KernelSeen(k, a), nil)
			continue
		}
		shown++
		if len(less) > 0 && len(less) < len(more) || len(more) < len(k.Objects) {
			some++
		}
		seen := impl.Kernel{Objects: more}
		wantKernelFault(t, "what is seen", seen, impl.OK)
		wantObjects(t, "the less, of what the greater one sees", impl.KernelSeen(seen, a), less)
		for place, path := range plainPaths(seen) {
			o, was := more[place], k.Objects[plainFind(k, path).Value]
			if o.Up = was.Up; !sameObject(o, was) {
				t.Errorf("by %v of %v: %v is %v", b, k, path, more[place])
			}
		}
		if t.Failed() {
			return
		}
	}
	if shown < 1000 || some < 500 {
		t.Errorf("%d seen, %d of them in part", shown, some)
	}
}

// The third part, for objects: what a label sees of a kernel a greater one sees by the same path.
func TestWhatALabelSeesOfAKernelAGreaterOneSees(t *testing.T) {
	for _, k := range kernelsOf(t) {
		for _, pair := range pairsOfSights(t) {
			less, more := impl.Kernel{Objects: impl.KernelSeen(k, pair[0]).Objects}, impl.Kernel{Objects: impl.KernelSeen(k, pair[1]).Objects}
			for place, path := range plainPaths(less) {
				found := plainFind(more, path)
				if found.Code != impl.OK {
					t.Errorf("%v of %v: the less sees %v, the greater one does not", pair, k, path)
					continue
				}
				if o := more.Objects[found.Value]; o.Name != less.Objects[place].Name || o.Kind != less.Objects[place].Kind || o.Quota != less.Objects[place].Quota || o.Next != less.Objects[place].Next || !sameLabel(o.Label, less.Objects[place].Label) || !slices.Equal(o.Data, less.Objects[place].Data) {
					t.Errorf("%v of %v: %v is %v, and %v", pair, k, path, less.Objects[place], o)
				}
			}
		}
	}
}

func TestSameObjectsOfOneThatDiffers(t *testing.T) {
	base := kernel(t, standardKernel)
	wantSameObjects(t, "itself", base.Objects, base.Objects, true)
	wantSameObjects(t, "a clone", base.Objects, cloneKernel(base).Objects, true)
	turns := kernelTurns(base)
	for n, turn := range turns {
		other := turnedKernel(base, turn.turn)
		wantSameObjects(t, turn.name, base.Objects, other.Objects, false)
		wantSameObjects(t, turn.name+", and itself", other.Objects, cloneKernel(other).Objects, true)
		another := turns[(n+1)%len(turns)]
		wantSameObjects(t, turn.name+", and "+another.name, other.Objects, turnedKernel(base, another.turn).Objects, false)
	}
	wantSameObjects(t, "none and none", nil, []impl.Object{}, true)
	wantSameObjects(t, "none, and one that has nothing", nil, make([]impl.Object, 1), false)
	wantSameObjects(t, "rows of nothing", make([]impl.Object, 1), []impl.Object{{Label: impl.Label{Levels: []int64{}}, Data: []int64{}}}, true)
}

// Lists that no kernel is, too: no fault is asked for.
func TestSameObjectsOfFaultyOnes(t *testing.T) {
	base := kernel(t, standardKernel).Objects
	for _, f := range faultyKernels(t) {
		wantSameObjects(t, f.name, f.kernel.Objects, cloneKernel(f.kernel).Objects, true)
		wantSameObjects(t, f.name+", and the standard", f.kernel.Objects, base, false)
	}
}
