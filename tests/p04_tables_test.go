package tests

// Promise 4: a tag and a domain that were added have their label, and all others keep theirs; who is tainted is never
// less so, and sees no less; what one may is told by the labels, and nobody may anything with what is the monitor's.

import (
	"fmt"
	"slices"
	"testing"

	"loop.example/g00530/impl"
)

func TestTablesBounds(t *testing.T) {
	if impl.MaxTags != 6 || impl.MaxDomains != 4 || impl.MayRead != 1 || impl.MayWrite != 2 || impl.MayRun != 4 {
		t.Error(impl.MaxTags, impl.MaxDomains, impl.MayRead, impl.MayWrite, impl.MayRun)
	}
}

func TestTablesFaultOfGoodOnes(t *testing.T) {
	for _, text := range goodTables() {
		if code := impl.TablesFault(tables(t, text)); code != impl.OK {
			t.Errorf("%q: code %d", text, code)
		}
	}
}

func TestTablesFaultOfFaultyOnes(t *testing.T) {
	for _, f := range faultyTables(t) {
		if code := impl.TablesFault(f.tables); code != f.code {
			t.Errorf("%s: code %d; want %d", f.name, code, f.code)
		}
	}
}

// Each code is asked of all tags and domains ahead of the next code.
func TestTablesFaultOfSeveralFaults(t *testing.T) {
	for _, f := range manyFaults(t) {
		if code := impl.TablesFault(f.tables); code != f.code {
			t.Errorf("%s: %s: code %d; want %d", f.name, tablesTold(f.tables), code, f.code)
		}
	}
}

// A registry's own fault comes first, whatever its tags and domains are.
func TestTablesFaultOfTheRegistryIsFirst(t *testing.T) {
	for _, f := range faultyRegistries(t) {
		for _, slots := range [][]int64{{}, {0}, {-1}, {0, 0, 0, 0, 0, 0, 0}} {
			x := impl.Tables{Registry: f.registry, Tags: slots, Domains: slots}
			if code := impl.TablesFault(x); code != f.code {
				t.Errorf("%s with %v: code %d; want %d", f.name, slots, code, f.code)
			}
		}
	}
}

// Only tags ask for a thing's label, and only domains for no top: of a slot with any label it is told who may mean it.
func TestTablesFaultByLabels(t *testing.T) {
	eachLabel(func(l impl.Label) {
		slots := []impl.Slot{{Count: 1, Label: l}}
		star, top := slices.Contains(l.Levels, impl.Star), slices.Contains(l.Levels, impl.Top)
		for name, row := range map[string]struct {
			tables impl.Tables
			bad    bool
		}{
			"tag":    {impl.Tables{Registry: impl.Registry{Slots: slots}, Tags: []int64{0}}, star || top},
			"domain": {impl.Tables{Registry: impl.Registry{Slots: slots}, Domains: []int64{0}}, top},
		} {
			want := int64(impl.OK)
			if row.bad {
				want = impl.ErrForm
			}
			if code := impl.TablesFault(row.tables); code != want {
				t.Errorf("a %s of %v: code %d; want %d", name, l.Levels, code, want)
			}
		}
	})
}

type addRow struct {
	before, label string
	value         int64
	after         string
}

func TestAddTagRows(t *testing.T) {
	for _, row := range []addRow{
		{"| |", "1111", 1, "1:1111 | 0 |"},
		{"1:1111 | 0 |", "1311", 2, "1:1111 1:1311 | 0 1 |"},
		{"1:1111 | 0 |", "1111", 2, "2:1111 | 0 0 |"},
		{"1:1111 | | 0", "1111", 1, "2:1111 | 0 | 0"},
		{"1:1*11 | | 0", "1111", 1, "1:1*11 1:1111 | 1 | 0"},
		{"- - | |", "1111", 1, "1:1111 - | 0 |"},
		{"- 1:1111 | 1 |", "1311", 2, "1:1311 1:1111 | 1 0 |"},
		{"- 1:1111 | | 1", "1111", 1, "- 2:1111 | 1 | 1"},
		{"1:1111 - 1:1311 - | 2 | 0", "3333", 2, "1:1111 1:3333 1:1311 - | 2 1 | 0"},
		{"5:1111 | 0 0 0 0 0 |", "0000", 6, "5:1111 1:0000 | 0 0 0 0 0 1 |"},
		{"9:1111 | 0 0 0 0 0 | 0 0 0 0", "1111", 6, "10:1111 | 0 0 0 0 0 0 | 0 0 0 0"},
		{"1:1111 1:1311 1:0000 1:3333 1:0123 1:*111 1:1*11 1:**** 1:2222 | 0 1 2 3 4 | 5 6 7 8", "3210", 6, "1:1111 1:1311 1:0000 1:3333 1:0123 1:*111 1:1*11 1:**** 1:2222 1:3210 | 0 1 2 3 4 9 | 5 6 7 8"},
		{"1:1111 1:1311 1:0000 1:3333 1:0123 1:*111 - 1:1*11 1:**** 1:2222 | 0 1 2 3 4 | 5 7 8 9", "3210", 6, "1:1111 1:1311 1:0000 1:3333 1:0123 1:*111 1:3210 1:1*11 1:**** 1:2222 | 0 1 2 3 4 6 | 5 7 8 9"},
	} {
		wantTables(t, "add the tag "+row.label+" to "+row.before, impl.AddTag(tables(t, row.before), label(t, row.label)), row.value, tables(t, row.after))
	}
}

func TestAddDomainRows(t *testing.T) {
	for _, row := range []addRow{
		{"| |", "1111", 0, "1:1111 | | 0"},
		{"| |", "****", 0, "1:**** | | 0"},
		{"1:1111 | | 0", "1*11", 1, "1:1111 1:1*11 | | 0 1"},
		{"1:1*11 | | 0", "1*11", 1, "2:1*11 | | 0 0"},
		{"1:1111 | 0 |", "1111", 0, "2:1111 | 0 | 0"},
		{"- - | |", "1*11", 0, "1:1*11 - | | 0"},
		{"- 1:1111 | 1 |", "1*11", 0, "1:1*11 1:1111 | 1 | 0"},
		{"- 1:1111 | 1 |", "1111", 0, "- 2:1111 | 1 | 1"},
		{"3:1111 | | 0 0 0", "0000", 3, "3:1111 1:0000 | | 0 0 0 1"},
		{"9:1111 | 0 0 0 0 0 0 | 0 0 0", "1111", 3, "10:1111 | 0 0 0 0 0 0 | 0 0 0 0"},
		{"1:1111 1:1311 1:0000 1:3333 1:0123 1:3210 1:*111 1:1*11 1:**** | 0 1 2 3 4 5 | 6 7 8", "3*3*", 3, "1:1111 1:1311 1:0000 1:3333 1:0123 1:3210 1:*111 1:1*11 1:**** 1:3*3* | 0 1 2 3 4 5 | 6 7 8 9"},
	} {
		wantTables(t, "add the domain "+row.label+" to "+row.before, impl.AddDomain(tables(t, row.before), label(t, row.label)), row.value, tables(t, row.after))
	}
}

func TestAddTagOfNoThing(t *testing.T) {
	for _, text := range goodTables() {
		for _, l := range notThings(t) {
			wantNoTables(t, fmt.Sprintf("add the tag %v to %q", l.Levels, text), impl.AddTag(tables(t, text), l), impl.ErrForm)
		}
	}
}

func TestAddDomainWithATop(t *testing.T) {
	for _, text := range goodTables() {
		for _, l := range topLabels(t) {
			wantNoTables(t, fmt.Sprintf("add the domain %v to %q", l.Levels, text), impl.AddDomain(tables(t, text), l), impl.ErrForm)
		}
	}
}

// As many tags as may be are no matter to domains, nor the other way round.
func TestAddToAsManyAsMayBe(t *testing.T) {
	for _, text := range goodTables() {
		x := tables(t, text)
		for _, told := range []string{"1111", "1311", "2323"} {
			tag, domain := impl.AddTag(x, label(t, told)), impl.AddDomain(x, label(t, told))
			if len(x.Tags) == 6 {
				wantNoTables(t, "a seventh tag of "+text, tag, impl.ErrFull)
			} else if tag.Code != impl.OK {
				t.Errorf("add the tag %s to %q: code %d", told, text, tag.Code)
			}
			if len(x.Domains) == 4 {
				wantNoTables(t, "a fifth domain of "+text, domain, impl.ErrFull)
			} else if domain.Code != impl.OK {
				t.Errorf("add the domain %s to %q: code %d", told, text, domain.Code)
			}
		}
	}
}

func TestDropTagRows(t *testing.T) {
	for _, row := range []struct {
		before string
		value  int64
		after  string
	}{
		{"1:1111 | 0 |", 1, "- | |"},
		{"2:1111 | 0 0 |", 2, "1:1111 | 0 |"},
		{"2:1111 | 0 | 0", 1, "1:1111 | | 0"},
		{"1:1111 1:1311 | 0 1 |", 2, "1:1111 - | 0 |"},
		{"1:1111 1:1311 | 1 0 |", 2, "- 1:1311 | 1 |"},
		{"- 1:1111 - 1:1*11 | 1 | 3", 1, "- - - 1:1*11 | | 3"},
		{"10:1111 | 0 0 0 0 0 0 | 0 0 0 0", 6, "9:1111 | 0 0 0 0 0 | 0 0 0 0"},
		{fullTables, 6, "1:1111 1:1311 1:0000 1:3333 1:0123 - 1:*111 1:1*11 1:**** 1:2222 | 0 1 2 3 4 | 6 7 8 9"},
	} {
		wantTables(t, "drop a tag of "+row.before, impl.DropTag(tables(t, row.before)), row.value, tables(t, row.after))
	}
	for _, text := range []string{"| |", "- - | |", "1:1111 | | 0", "4:**** | | 0 0 0 0"} {
		wantNoTables(t, "drop a tag of "+text, impl.DropTag(tables(t, text)), impl.ErrNone)
	}
}

func TestTaintDomainRows(t *testing.T) {
	for _, row := range []struct {
		before string
		domain int64
		label  string
		slot   int64
		after  string
	}{
		{"1:1111 | | 0", 0, "1311", 0, "1:1311 | | 0"},
		{"2:1111 | 0 | 0", 0, "1311", 1, "1:1111 1:1311 | 0 | 1"},
		{"1:1111 1:1311 | 1 | 0", 0, "1311", 1, "- 2:1311 | 1 | 1"},
		{"2:1111 | | 0 0", 1, "1311", 1, "1:1111 1:1311 | | 0 1"},
		{"2:1111 | | 0 0", 0, "1311", 1, "1:1111 1:1311 | | 1 0"},
		// The slot that was left is the first that is empty, or one ahead of it is.
		{"1:1111 1:1*11 | 0 | 1", 0, "3333", 1, "1:1111 1:3*33 | 0 | 1"},
		{"- 1:1111 | | 1", 0, "1311", 0, "1:1311 - | | 0"},
		{"1:1111 - 1:1*11 | 0 | 2", 0, "2222", 1, "1:1111 1:2*22 - | 0 | 1"},
		// A taint that leaves the label as it was.
		{"1:1111 | | 0", 0, "1111", 0, "1:1111 | | 0"},
		{"1:1111 | | 0", 0, "0000", 0, "1:1111 | | 0"},
		{"2:1111 | 0 | 0", 0, "1111", 0, "2:1111 | 0 | 0"},
		{"- 2:1111 | 1 | 1", 0, "0110", 1, "- 2:1111 | 1 | 1"},
		{"- 1:1111 | | 1", 0, "1111", 0, "1:1111 - | | 0"},
		{"1:**** | | 0", 0, "3333", 0, "1:**** | | 0"},
		// What is owned stays owned, and all else is tainted.
		{"1:1*11 | | 0", 0, "1311", 0, "1:1*11 | | 0"},
		{"1:1*1* | | 0", 0, "0323", 0, "1:1*2* | | 0"},
		{"1:*210 | | 0", 0, "3012", 0, "1:*212 | | 0"},
		// In a registry that is full there is room where the domain alone meant its slot, and where the label is known.
		{fullTables, 3, "2322", 9, "1:1111 1:1311 1:0000 1:3333 1:0123 1:3210 1:*111 1:1*11 1:**** 1:2322 | 0 1 2 3 4 5 | 6 7 8 9"},
		{fullTables, 3, "3333", 3, "1:1111 1:1311 1:0000 2:3333 1:0123 1:3210 1:*111 1:1*11 1:**** - | 0 1 2 3 4 5 | 6 7 8 3"},
		{fullTables, 0, "3212", 6, "1:1111 1:1311 1:0000 1:3333 1:0123 1:3210 1:*212 1:1*11 1:**** 1:2222 | 0 1 2 3 4 5 | 6 7 8 9"},
		{fullTables, 2, "3333", 8, fullTables},
	} {
		what := fmt.Sprintf("taint %d of %q by %s", row.domain, row.before, row.label)
		wantTables(t, what, impl.TaintDomain(tables(t, row.before), row.domain, label(t, row.label)), row.slot, tables(t, row.after))
	}
}

func TestTaintDomainByNoThing(t *testing.T) {
	for _, text := range goodTables() {
		x := tables(t, text)
		for domain := range int64(len(x.Domains)) {
			for _, l := range notThings(t) {
				what := fmt.Sprintf("taint %d of %q by %v", domain, text, l.Levels)
				wantNoTables(t, what, impl.TaintDomain(x, domain, l), impl.ErrForm)
			}
		}
	}
}

func TestLabelsOfAllTagsAndDomains(t *testing.T) {
	for _, text := range goodTables() {
		x := tables(t, text)
		wantNoLabel(t, "tag 0 of "+text, impl.TagLabel(x, 0), impl.ErrNone)
		for i, slot := range x.Tags {
			wantLabel(t, fmt.Sprintf("tag %d of %q", i+1, text), impl.TagLabel(x, int64(i)+1), x.Registry.Slots[slot].Label)
		}
		for i, slot := range x.Domains {
			wantLabel(t, fmt.Sprintf("domain %d of %q", i, text), impl.DomainLabel(x, int64(i)), x.Registry.Slots[slot].Label)
		}
	}
}

// holding is whose label is which, told apart from the slots: what a call may turn of it is one entry.
type holding struct {
	tags    []impl.Label
	domains []impl.Label
}

func holdingOf(x impl.Tables) holding {
	var h holding
	for _, slot := range x.Tags {
		h.tags = append(h.tags, x.Registry.Slots[slot].Label)
	}
	for _, slot := range x.Domains {
		h.domains = append(h.domains, x.Registry.Slots[slot].Label)
	}
	return h
}

func (h holding) clone() holding {
	return holding{slices.Clone(h.tags), slices.Clone(h.domains)}
}

func wantHolding(t *testing.T, what string, x impl.Tables, want holding) {
	t.Helper()
	if code := impl.TablesFault(x); code != impl.OK {
		t.Errorf("%s: %s has the fault %d", what, tablesTold(x), code)
	}
	if len(x.Tags) != len(want.tags) || len(x.Domains) != len(want.domains) {
		t.Errorf("%s: %s has not %d tags and %d domains", what, tablesTold(x), len(want.tags), len(want.domains))
	}
	for i, l := range want.tags {
		wantLabel(t, fmt.Sprintf("%s: tag %d", what, i+1), impl.TagLabel(x, int64(i)+1), l)
	}
	for i, l := range want.domains {
		wantLabel(t, fmt.Sprintf("%s: domain %d", what, i), impl.DomainLabel(x, int64(i)), l)
	}
	wantNoLabel(t, what+": a tag behind", impl.TagLabel(x, int64(len(want.tags))+1), impl.ErrNone)
	wantNoLabel(t, what+": a domain behind", impl.DomainLabel(x, int64(len(want.domains))), impl.ErrNone)
}

func TestTagThatWasAdded(t *testing.T) {
	for _, text := range goodTables() {
		x := tables(t, text)
		if len(x.Tags) == 6 {
			continue
		}
		was := holdingOf(x)
		eachThing(func(l impl.Label) {
			want := was.clone()
			want.tags = append(want.tags, l)
			got := impl.AddTag(x, l)
			what := fmt.Sprintf("add the tag %v to %q", l.Levels, text)
			wantHolding(t, what, got.Tables, want)
			wantInt(t, what, impl.IntResult{Code: got.Code, Value: got.Value}, int64(len(want.tags)))
			dropped := impl.DropTag(got.Tables)
			wantHolding(t, what+" and drop it", dropped.Tables, was)
			wantInt(t, what+" and drop it", impl.IntResult{Code: dropped.Code, Value: dropped.Value}, got.Value)
		})
	}
}

func TestDomainThatWasAdded(t *testing.T) {
	for _, text := range goodTables() {
		x := tables(t, text)
		if len(x.Domains) == 4 {
			continue
		}
		was := holdingOf(x)
		eachOwner(func(l impl.Label) {
			want := was.clone()
			want.domains = append(want.domains, l)
			got := impl.AddDomain(x, l)
			what := fmt.Sprintf("add the domain %v to %q", l.Levels, text)
			wantHolding(t, what, got.Tables, want)
			wantInt(t, what, impl.IntResult{Code: got.Code, Value: got.Value}, int64(len(was.domains)))
		})
	}
}

// tainted is the taint level by level.
func tainted(who, by impl.Label) impl.Label {
	levels := slices.Clone(who.Levels)
	for category, level := range levels {
		if level != impl.Star && level < by.Levels[category] {
			levels[category] = by.Levels[category]
		}
	}
	return impl.Label{Levels: levels}
}

func TestDomainThatWasTainted(t *testing.T) {
	for _, text := range goodTables() {
		x := tables(t, text)
		was := holdingOf(x)
		for domain, who := range was.domains {
			eachThing(func(l impl.Label) {
				want := was.clone()
				want.domains[domain] = tainted(who, l)
				got := impl.TaintDomain(x, int64(domain), l)
				what := fmt.Sprintf("taint %d of %q by %v", domain, text, l.Levels)
				wantHolding(t, what, got.Tables, want)
				if got.Code != impl.OK || got.Value != got.Tables.Domains[domain] {
					t.Errorf("%s: code %d, value %d, domains %v", what, got.Code, got.Value, got.Tables.Domains)
				}
			})
		}
	}
}

// seesNoLess asks of each category by itself, which is all that observing asks of.
func seesNoLess(before, after impl.Label) bool {
	for category, level := range before.Levels {
		now := after.Levels[category]
		if level == impl.Star && now != impl.Star || now != impl.Star && now < level {
			return false
		}
	}
	return true
}

func TestTaintIsNeverLess(t *testing.T) {
	eachOwner(func(who impl.Label) {
		x := impl.Tables{Registry: impl.Registry{Slots: []impl.Slot{{Count: 1, Label: who}}}, Domains: []int64{0}}
		eachThing(func(l impl.Label) {
			got := impl.TaintDomain(x, 0, l)
			if got.Code != impl.OK || len(got.Tables.Registry.Slots) != 1 {
				t.Fatalf("%v tainted by %v: %v", who.Levels, l.Levels, got)
			}
			now := got.Tables.Registry.Slots[0].Label
			if !sameLabel(now, tainted(who, l)) || !seesNoLess(who, now) || !impl.IsBelow(who, now) || !impl.CanObserve(now, l) {
				t.Fatalf("%v tainted by %v is %v", who.Levels, l.Levels, now.Levels)
			}
		})
	})
}

// permTold tells by levels what one may.
func permTold(who, what impl.Label) int64 {
	observes, modifies := true, true
	for category, level := range who.Levels {
		thing := what.Levels[category]
		observes = observes && (level == impl.Star || thing <= level)
		modifies = modifies && level <= thing
	}
	switch {
	case observes && modifies:
		return 7
	case observes:
		return 5
	}
	return 0
}

func TestPermOfAllLabels(t *testing.T) {
	eachOwner(func(who impl.Label) {
		x := impl.Tables{Registry: impl.Registry{Slots: []impl.Slot{{Count: 1, Label: who}}}, Domains: []int64{0}}
		wantInt(t, fmt.Sprintf("%v and the monitor's tag", who.Levels), impl.PermOf(x, 0, 0), 0)
		eachThing(func(what impl.Label) {
			both := impl.Tables{Registry: impl.Registry{Slots: []impl.Slot{{Count: 1, Label: what}, {Count: 1, Label: who}}}, Tags: []int64{0}, Domains: []int64{1}}
			if sameLabel(who, what) {
				both = impl.Tables{Registry: impl.Registry{Slots: []impl.Slot{{Count: 2, Label: what}}}, Tags: []int64{0}, Domains: []int64{0}}
			}
			if got := impl.PermOf(both, 0, 1); got != (impl.IntResult{Value: permTold(who, what)}) {
				t.Fatalf("%v and a tag of %v: %v; want %d", who.Levels, what.Levels, got, permTold(who, what))
			}
		})
	})
}

func TestPermOfRows(t *testing.T) {
	x := tables(t, "2:1111 2:1311 1:1*11 1:**** | 0 1 | 0 1 2 3")
	for domain, perms := range [][]int64{{0, 7, 0}, {0, 5, 7}, {0, 7, 7}, {0, 7, 7}} {
		for tag, perm := range perms {
			wantInt(t, fmt.Sprintf("domain %d and tag %d", domain, tag), impl.PermOf(x, int64(domain), int64(tag)), perm)
		}
	}
}

func TestPermOfAllTagsAndDomains(t *testing.T) {
	for _, text := range goodTables() {
		x := tables(t, text)
		h := holdingOf(x)
		for domain, who := range h.domains {
			wantInt(t, fmt.Sprintf("domain %d and tag 0 of %q", domain, text), impl.PermOf(x, int64(domain), 0), 0)
			for i, what := range h.tags {
				wantInt(t, fmt.Sprintf("domain %d and tag %d of %q", domain, i+1, text), impl.PermOf(x, int64(domain), int64(i)+1), permTold(who, what))
			}
		}
	}
}

// Who is tainted may read what it could read, and what it is tainted by.
func TestTaintAndWhatOneMay(t *testing.T) {
	for _, text := range goodTables() {
		x := tables(t, text)
		for domain := range int64(len(x.Domains)) {
			for tag := int64(1); tag <= int64(len(x.Tags)); tag++ {
				got := impl.TaintDomain(x, domain, impl.TagLabel(x, tag).Label).Tables
				if perm := impl.PermOf(got, domain, tag).Value; perm&impl.MayRead == 0 || perm&impl.MayRun == 0 {
					t.Errorf("%q: domain %d tainted by tag %d may %d with it", text, domain, tag, perm)
				}
				for other := int64(0); other <= int64(len(x.Tags)); other++ {
					was, now := impl.PermOf(x, domain, other).Value, impl.PermOf(got, domain, other).Value
					if was&5&^now != 0 || now&impl.MayWrite != 0 && now&5 != 5 || other == 0 && now != 0 {
						t.Errorf("%q: domain %d tainted by tag %d may %d with %d, and could %d", text, domain, tag, now, other, was)
					}
				}
			}
		}
	}
}

// plainTables is tables told as plainly as can be over the model of a registry, to hold long walks against.
type plainTables struct {
	slots   model
	tags    []int64
	domains []int64
}

func (p plainTables) tables() impl.Tables {
	return impl.Tables{Registry: impl.Registry{Slots: p.slots}, Tags: p.tags, Domains: p.domains}
}

func (p plainTables) addTag(l impl.Label) (plainTables, int64, int64) {
	if len(p.tags) == 6 {
		return plainTables{}, 0, impl.ErrFull
	}
	slots, slot, _ := p.slots.enter(l)
	tags := append(slices.Clone(p.tags), slot)
	return plainTables{slots, tags, p.domains}, int64(len(tags)), impl.OK
}

func (p plainTables) addDomain(l impl.Label) (plainTables, int64, int64) {
	if len(p.domains) == 4 {
		return plainTables{}, 0, impl.ErrFull
	}
	slots, slot, _ := p.slots.enter(l)
	return plainTables{slots, p.tags, append(slices.Clone(p.domains), slot)}, int64(len(p.domains)), impl.OK
}

func (p plainTables) dropTag() (plainTables, int64, int64) {
	many := len(p.tags)
	if many == 0 {
		return plainTables{}, 0, impl.ErrNone
	}
	slots, _, _ := p.slots.leave(p.tags[many-1])
	return plainTables{slots, slices.Clone(p.tags[:many-1]), p.domains}, int64(many), impl.OK
}

func (p plainTables) taint(domain int64, l impl.Label) (plainTables, int64, int64) {
	if domain < 0 || domain >= int64(len(p.domains)) {
		return plainTables{}, 0, impl.ErrNone
	}
	slot := p.domains[domain]
	next := tainted(p.slots[slot].Label, l)
	slots, _, _ := p.slots.leave(slot)
	slots, slot, _ = slots.enter(next)
	domains := slices.Clone(p.domains)
	domains[domain] = slot
	return plainTables{slots, p.tags, domains}, slot, impl.OK
}

// walkTables does all that can be done in so many steps from tables.
func walkTables(t *testing.T, p plainTables, x impl.Tables, steps int, things, owners []impl.Label) {
	if steps == 0 || t.Failed() {
		return
	}
	step := func(what string, got impl.TablesResult, next plainTables, value, code int64) {
		what += " of " + tablesTold(x)
		if code != impl.OK {
			wantNoTables(t, what, got, code)
			return
		}
		wantTables(t, what, got, value, next.tables())
		if fault := impl.TablesFault(got.Tables); fault != impl.OK {
			t.Errorf("%s: the fault %d", what, fault)
		}
		walkTables(t, next, got.Tables, steps-1, things, owners)
	}
	next, value, code := p.dropTag()
	step("drop a tag", impl.DropTag(x), next, value, code)
	for _, l := range things {
		next, value, code := p.addTag(l)
		step(fmt.Sprint("add a tag ", l.Levels), impl.AddTag(x, l), next, value, code)
		for domain := int64(-1); domain <= int64(len(x.Domains)); domain++ {
			next, value, code := p.taint(domain, l)
			step(fmt.Sprint("taint ", domain, " by ", l.Levels), impl.TaintDomain(x, domain, l), next, value, code)
		}
	}
	for _, l := range owners {
		next, value, code := p.addDomain(l)
		step(fmt.Sprint("add a domain ", l.Levels), impl.AddDomain(x, l), next, value, code)
	}
}

func TestTablesWalks(t *testing.T) {
	things := []impl.Label{label(t, "1111"), label(t, "1311")}
	owners := []impl.Label{label(t, "1111"), label(t, "*011")}
	walkTables(t, plainTables{}, impl.Tables{}, 5, things, owners)
	for _, text := range goodTables() {
		x := tables(t, text)
		walkTables(t, plainTables{slices.Clone(x.Registry.Slots), x.Tags, x.Domains}, x, 2, append(things, label(t, "2323")), append(owners, label(t, "0*3*")))
	}
}

// Ten that all have other labels fill the registry, and then it is left again tag by tag.
func TestTablesUpToAllAndBack(t *testing.T) {
	x, was := impl.Tables{}, holding{}
	for i := range int64(6) {
		l := labelOf(1, 1, 1+i/4, 1+i%4)
		got := impl.AddTag(x, l)
		was.tags = append(was.tags, l)
		wantHolding(t, "one tag more", got.Tables, was)
		x = got.Tables
	}
	for i := range int64(4) {
		l := labelOf(0, 0, 0, 1+i)
		got := impl.AddDomain(x, l)
		was.domains = append(was.domains, l)
		wantHolding(t, "one domain more", got.Tables, was)
		x = got.Tables
	}
	if len(x.Registry.Slots) != 10 {
		t.Errorf("ten labels have %d slots", len(x.Registry.Slots))
	}
	wantNoTables(t, "a seventh tag", impl.AddTag(x, label(t, "3333")), impl.ErrFull)
	wantNoTables(t, "a fifth domain", impl.AddDomain(x, label(t, "3333")), impl.ErrFull)
	for many := 5; many >= 0; many-- {
		got := impl.DropTag(x)
		was.tags = was.tags[:many]
		wantHolding(t, "one tag less", got.Tables, was)
		x = got.Tables
	}
	wantNoTables(t, "one tag less than none", impl.DropTag(x), impl.ErrNone)
}
