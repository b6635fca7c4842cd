package tests

// Promise 1, for tags and domains: every function answers at every argument, ends, and changes none; what it answers is
// new memory; it hangs on the arguments alone.

import (
	"fmt"
	"math"
	"strings"
	"testing"

	"loop.example/g00530/impl"
)

// refused asks all functions for one code, and that nothing else is told.
func refused(t *testing.T, what string, x impl.Tables, l impl.Label, number int64, code int64) {
	t.Helper()
	what = fmt.Sprintf("%s with %v and %d", what, l.Levels, number)
	wantNoTables(t, "AddTag: "+what, impl.AddTag(x, l), code)
	wantNoTables(t, "AddDomain: "+what, impl.AddDomain(x, l), code)
	wantNoTables(t, "DropTag: "+what, impl.DropTag(x), code)
	wantNoTables(t, "TaintDomain: "+what, impl.TaintDomain(x, number, l), code)
	wantNoLabel(t, "TagLabel: "+what, impl.TagLabel(x, number), code)
	wantNoLabel(t, "DomainLabel: "+what, impl.DomainLabel(x, number), code)
	wantNoInt(t, "PermOf: "+what, impl.PermOf(x, number, number), code)
	wantNoInt(t, "PermOf the monitor's: "+what, impl.PermOf(x, number, 0), code)
}

func TestTablesFaultsComeFirst(t *testing.T) {
	labels := []impl.Label{label(t, "1111"), label(t, "*111"), label(t, "J111"), {}, labelOf(9, 1, 1, 1)}
	for _, number := range []int64{0, 1, -1, 7, math.MinInt64, math.MaxInt64} {
		for _, l := range labels {
			for _, f := range faultyTables(t) {
				refused(t, f.name, f.tables, l, number, f.code)
			}
			for _, f := range manyFaults(t) {
				refused(t, f.name, f.tables, l, number, f.code)
			}
		}
	}
}

// The label's fault is told ahead of what a good one would be told: that there is no room.
func TestTablesLabelFaults(t *testing.T) {
	for _, text := range goodTables() {
		x := tables(t, text)
		for _, f := range faultyLabels() {
			what := f.name + " and " + text
			wantNoTables(t, "AddTag: "+what, impl.AddTag(x, f.label), f.code)
			wantNoTables(t, "AddDomain: "+what, impl.AddDomain(x, f.label), f.code)
			for domain := range int64(len(x.Domains)) {
				wantNoTables(t, "TaintDomain: "+what, impl.TaintDomain(x, domain, f.label), f.code)
			}
		}
	}
}

// That there is no such domain is told ahead of what is wrong with the label.
func TestTaintOfNoDomain(t *testing.T) {
	labels := append(notThings(t), label(t, "1111"))
	for _, f := range faultyLabels() {
		labels = append(labels, f.label)
	}
	for _, text := range goodTables() {
		x := tables(t, text)
		for _, domain := range notNumbers(0, len(x.Domains)) {
			for _, l := range labels {
				what := fmt.Sprintf("taint %d of %q by %v", domain, text, l.Levels)
				wantNoTables(t, what, impl.TaintDomain(x, domain, l), impl.ErrNone)
			}
		}
	}
}

func TestNoTagsAndNoDomains(t *testing.T) {
	for _, text := range goodTables() {
		x := tables(t, text)
		for _, tag := range notNumbers(1, len(x.Tags)) {
			what := fmt.Sprintf("tag %d of %q", tag, text)
			wantNoLabel(t, what, impl.TagLabel(x, tag), impl.ErrNone)
			for domain := range int64(len(x.Domains)) {
				if tag != 0 {
					wantNoInt(t, what, impl.PermOf(x, domain, tag), impl.ErrNone)
				}
			}
		}
		for _, domain := range notNumbers(0, len(x.Domains)) {
			what := fmt.Sprintf("domain %d of %q", domain, text)
			wantNoLabel(t, what, impl.DomainLabel(x, domain), impl.ErrNone)
			for _, tag := range append(notNumbers(1, len(x.Tags)), 0, 1, int64(len(x.Tags))) {
				wantNoInt(t, fmt.Sprintf("%s and tag %d", what, tag), impl.PermOf(x, domain, tag), impl.ErrNone)
			}
		}
	}
}

func TestTablesNilIsEmpty(t *testing.T) {
	none := impl.Tables{}
	empty := impl.Tables{Registry: impl.Registry{Slots: []impl.Slot{}}, Tags: []int64{}, Domains: []int64{}}
	for _, told := range []string{"1111", "*111", "J111"} {
		if a, b := tablesAnswers(none, label(t, told)), tablesAnswers(empty, label(t, told)); a != b {
			t.Errorf("%s: without lists %s, with empty ones %s", told, a, b)
		}
	}
}

// tablesAnswers tells all that the functions answer for tables and a label.
func tablesAnswers(x impl.Tables, l impl.Label) string {
	told := []string{fmt.Sprint(impl.TablesFault(x))}
	tell := func(got impl.TablesResult) {
		told = append(told, fmt.Sprint(got.Code, got.Value, tablesTold(got.Tables)))
	}
	tell(impl.AddTag(x, l))
	tell(impl.AddDomain(x, l))
	tell(impl.DropTag(x))
	for domain := int64(-1); domain <= 5; domain++ {
		tell(impl.TaintDomain(x, domain, l))
		told = append(told, fmt.Sprint(impl.DomainLabel(x, domain), impl.TagLabel(x, domain+1)))
		for tag := int64(-1); tag <= 7; tag++ {
			told = append(told, fmt.Sprint(impl.PermOf(x, domain, tag)))
		}
	}
	return strings.Join(told, "; ")
}

// roomyTables have all their lists in memory that goes on behind them, where a careless append would be seen.
func roomyTables(x impl.Tables) (impl.Tables, func() string) {
	r, registryMemory := roomyRegistry(x.Registry)
	tags, tagMemory := roomy(x.Tags...)
	domains, domainMemory := roomy(x.Domains...)
	told := func() string { return fmt.Sprint(registryMemory(), tagMemory, domainMemory) }
	return impl.Tables{Registry: r, Tags: tags.Levels, Domains: domains.Levels}, told
}

func manyTables(t *testing.T) []impl.Tables {
	t.Helper()
	list := []impl.Tables{}
	for _, text := range goodTables() {
		list = append(list, tables(t, text))
	}
	for _, f := range faultyTables(t) {
		list = append(list, f.tables)
	}
	return list
}

func TestTablesArgumentsStay(t *testing.T) {
	lists := [][]int64{{2, 4, 2, 2}, {2, 2, 2, 2}, {4, 4, 4, 4}, {0, 2, 2, 2}, {5, 2, 2, 2}, {}, {1, 2, 3}, {0, -1, 9, 1}}
	for _, given := range manyTables(t) {
		for _, levels := range lists {
			x, told := roomyTables(given)
			l, memory := roomy(levels...)
			was, labelWas := told(), fmt.Sprint(memory)
			tablesAnswers(x, l)
			if told() != was || fmt.Sprint(memory) != labelWas {
				t.Errorf("%s, or %s became %s, %v", was, labelWas, told(), memory)
			}
		}
	}
}

// overwriteTables turns all of the tables' memory, what lies behind the ends too.
func overwriteTables(x impl.Tables) {
	overwriteRegistry(x.Registry)
	overwrite(x.Tags)
	overwrite(x.Domains)
}

// tablesCalls are the calls that answer tables, at all domains.
func tablesCalls(x impl.Tables, l impl.Label) map[string]func() impl.TablesResult {
	calls := map[string]func() impl.TablesResult{
		"AddTag":    func() impl.TablesResult { return impl.AddTag(x, l) },
		"AddDomain": func() impl.TablesResult { return impl.AddDomain(x, l) },
		"DropTag":   func() impl.TablesResult { return impl.DropTag(x) },
	}
	for domain := range int64(len(x.Domains)) {
		calls[fmt.Sprint("TaintDomain ", domain)] = func() impl.TablesResult { return impl.TaintDomain(x, domain, l) }
	}
	return calls
}

func TestTablesAnswersAreNewMemory(t *testing.T) {
	for _, text := range goodTables() {
		for _, levels := range [][]int64{{2, 2, 2, 2}, {4, 4, 4, 4}, {3, 4, 3, 2}} {
			x, told := roomyTables(tables(t, text))
			l, memory := roomy(levels...)
			was := told() + fmt.Sprint(memory)
			// A label that lies in the tables themselves, too.
			labels := []impl.Label{l}
			for _, s := range x.Registry.Slots {
				labels = append(labels, s.Label)
			}
			for _, told := range labels {
				for _, call := range tablesCalls(x, told) {
					overwriteTables(call().Tables)
				}
			}
			for number := range int64(7) {
				overwrite(impl.TagLabel(x, number).Label.Levels)
				overwrite(impl.DomainLabel(x, number).Label.Levels)
			}
			if got := told() + fmt.Sprint(memory); got != was {
				t.Fatalf("an answer shares memory with %q or %v: %s, and was %s", text, levels, got, was)
			}
		}
	}
}

// Each list of an answer is overwritten by itself: the others must not be seen to turn.
func TestTablesListsOfOneAnswerAreApart(t *testing.T) {
	for _, text := range goodTables() {
		for _, told := range []string{"1111", "1311", "2323"} {
			for name, call := range tablesCalls(tables(t, text), label(t, told)) {
				what := fmt.Sprintf("%s of %q with %s", name, text, told)
				x := call().Tables
				was := registryTold(x.Registry) + fmt.Sprint(x.Domains)
				overwrite(x.Tags)
				if registryTold(x.Registry)+fmt.Sprint(x.Domains) != was {
					t.Errorf("%s: the tags share memory with another list", what)
				}
				was = registryTold(x.Registry) + fmt.Sprint(x.Tags)
				overwrite(x.Domains)
				if registryTold(x.Registry)+fmt.Sprint(x.Tags) != was {
					t.Errorf("%s: the domains share memory with another list", what)
				}
				apart(t, what, x.Registry)
			}
		}
	}
}

func TestTablesAnswersAreApart(t *testing.T) {
	x, l := tables(t, "2:1111 - 1:1311 1:1*11 | 0 2 | 0 3"), label(t, "2323")
	for name, call := range tablesCalls(x, l) {
		first, second := call(), call()
		was := tablesTold(second.Tables)
		overwriteTables(first.Tables)
		if tablesTold(second.Tables) != was || tablesTold(call().Tables) != was {
			t.Errorf("%s: an answer hangs on another one", name)
		}
	}
	tag, domain := impl.TagLabel(x, 2), impl.DomainLabel(x, 1)
	overwrite(impl.TagLabel(x, 2).Label.Levels)
	overwrite(impl.DomainLabel(x, 1).Label.Levels)
	wantLabel(t, "TagLabel, another answer overwritten", tag, label(t, "1311"))
	wantLabel(t, "DomainLabel, another answer overwritten", domain, label(t, "1*11"))
}

func TestTablesAnswersHangOnArgumentsAlone(t *testing.T) {
	x, l := tables(t, fullTables), label(t, "2322")
	y := tables(t, "2:1111 - 1:1311 1:1*11 | 0 2 | 0 3")
	wasFull, was := tablesAnswers(x, l), tablesAnswers(y, l)
	for _, other := range manyTables(t) {
		tablesAnswers(other, l)
		tablesAnswers(other, label(t, "1311"))
		if got := tablesAnswers(x, l); got != wasFull {
			t.Fatalf("behind calls with %s the answers are %s, and were %s", tablesTold(other), got, wasFull)
		}
		if got := tablesAnswers(y, l); got != was {
			t.Fatalf("behind calls with %s the answers are %s, and were %s", tablesTold(other), got, was)
		}
	}
}
