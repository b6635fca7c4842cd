package tests

import (
	"fmt"
	"math"
	"slices"
	"strconv"
	"strings"
	"testing"

	"loop.example/g00530/impl"
)

// tables reads a registry, the slots of tags and those of domains, with bars between: "2:1111 1:1*11 | 0 | 0 1".
func tables(t *testing.T, text string) impl.Tables {
	t.Helper()
	parts := strings.Split(text, "|")
	if len(parts) != 3 {
		t.Fatalf("the test's own tables %q have no three parts", text)
	}
	return impl.Tables{Registry: registry(t, parts[0]), Tags: numbers(t, parts[1]), Domains: numbers(t, parts[2])}
}

func numbers(t *testing.T, text string) []int64 {
	t.Helper()
	list := []int64{}
	for _, word := range strings.Fields(text) {
		number, err := strconv.ParseInt(word, 10, 64)
		if err != nil {
			t.Fatalf("the test's own numbers %q: %v", text, err)
		}
		list = append(list, number)
	}
	return list
}

const fullTables = "1:1111 1:1311 1:0000 1:3333 1:0123 1:3210 1:*111 1:1*11 1:**** 1:2222 | 0 1 2 3 4 5 | 6 7 8 9"

// goodTables are as texts what tables can be: none of each, as many as may be, one slot for many, slots that are empty anywhere.
func goodTables() []string {
	return []string{
		"| |",
		"- - | |",
		"- - - - - - - - - - | |",
		"1:1111 | 0 |",
		"1:1*11 | | 0",
		"2:1111 | 0 | 0",
		"1:1111 1:1*11 | 0 | 1",
		"1:1*11 1:1111 | 1 | 0",
		"3:1111 1:1311 | 0 1 | 0 0",
		"- 1:1111 - | 1 |",
		"- 1:1111 | | 1",
		"- 2:1111 - 1:1311 | 1 | 3 1",
		"1:1111 - 1:1311 - | 2 | 0",
		"6:1111 | 0 0 0 0 0 0 |",
		"1:1111 1:1311 1:0000 1:3333 1:0123 1:3210 | 5 4 3 2 1 0 |",
		"6:1111 1:**** | 0 0 0 0 0 0 | 1",
		"4:**** | | 0 0 0 0",
		"1:3333 1:0000 1:*0*0 1:1111 | | 3 0 2 1",
		"1:1311 4:*3*3 | 0 | 1 1 1 1",
		"10:1111 | 0 0 0 0 0 0 | 0 0 0 0",
		fullTables,
		"1:1111 - - 1:1311 - 1:*111 - - - 1:0*0* | 3 0 | 9 5",
		"1:2222 1:**** 1:1*11 1:*111 1:3210 1:0123 1:3333 1:0000 1:1311 1:1111 | 9 8 7 6 5 4 | 3 2 1 0",
	}
}

type faultyTable struct {
	name   string
	tables impl.Tables
	code   int64
}

func tablesOf(t *testing.T, slots string, tags []int64, domains []int64) impl.Tables {
	t.Helper()
	return impl.Tables{Registry: registry(t, slots), Tags: tags, Domains: domains}
}

func faultyTables(t *testing.T) []faultyTable {
	t.Helper()
	list := []faultyTable{}
	for _, f := range faultyRegistries(t) {
		list = append(list, faultyTable{"registry: " + f.name, impl.Tables{Registry: f.registry}, f.code})
	}
	texts := map[int64][]string{
		impl.ErrMany: {
			"7:1111 | 0 0 0 0 0 0 0 |",
			"5:1111 | | 0 0 0 0 0",
			"12:1111 | 0 0 0 0 0 0 0 | 0 0 0 0 0",
			"5:1111 | 0 | 0 0 0 0 0",
			"8:1111 | 0 0 0 0 0 0 0 | 0",
			"| 0 0 0 0 0 0 0 |",
			"| | -1 -1 -1 -1 -1",
			"99:1111 | " + strings.Repeat("0 ", 99) + "|",
		},
		impl.ErrNone: {
			"| 0 |", "| | 0",
			"- | 0 |", "- | | 0",
			"1:1111 - | 0 1 |", "1:1111 - | 0 | 1",
			"1:1111 - | 1 0 |", "1:1111 - | | 1 0",
			"1:1111 1:1311 - - | 0 | 1 3",
		},
		impl.ErrForm: {
			"1:*111 | 0 |", "1:11*1 | 0 |", "1:**** | 0 |", "1:J111 | 0 |", "1:111J | 0 |", "1:JJJJ | 0 |", "1:*11J | 0 |",
			"1:1111 1:1*11 | 0 1 |", "1:1111 1:1*11 | 1 0 |", "2:1*11 | 0 | 0",
			"1:J111 | | 0", "1:1J11 | | 0", "1:11J1 | | 0", "1:111J | | 0", "1:JJJJ | | 0", "1:*11J | | 0",
			"1:1111 1:J111 | | 0 1", "1:1111 1:J111 | | 1 0", "2:1J11 | 0 | 0",
			"1:1111 1:2222 1:3333 1:*J** | 0 1 | 2 3",
		},
		impl.ErrState: {
			"1:1111 | |", "1:1*11 | |", "1:J111 | |", "99:1111 | |",
			"2:1111 | 0 |", "2:1111 | | 0", "1:1111 | 0 | 0", "1:1111 | 0 0 |", "1:1111 | | 0 0", "3:1111 | 0 | 0", "99:1111 | 0 | 0",
			"2:1111 1:1311 | 0 1 1 |", "1:1111 2:1311 | 0 0 | 1", "1:1111 1:1311 | 0 |", "1:1111 1:1311 | 1 |", "1:1111 1:1311 | | 0",
			"1:1111 - 1:1311 | 0 |", "1:1111 - 2:1311 | 0 | 2",
			strings.Replace(fullTables, "1:1111", "2:1111", 1),
			strings.Replace(fullTables, "1:2222", "2:2222", 1),
			strings.Replace(fullTables, "1:2222", "98:2222", 1),
		},
	}
	for code, rows := range texts {
		for _, text := range rows {
			list = append(list, faultyTable{text, tables(t, text), code})
		}
	}
	for _, slot := range []int64{-1, -2, 2, 3, 9, 10, 11, 1 << 32, 1<<32 + 1, -1 << 32, math.MinInt64, math.MaxInt64} {
		name := fmt.Sprint("a slot ", slot)
		list = append(list,
			faultyTable{name + " of the first tag", tablesOf(t, "1:1111 1:1311", []int64{slot, 0}, []int64{1}), impl.ErrNone},
			faultyTable{name + " of the last tag", tablesOf(t, "1:1111 1:1311", []int64{0, slot}, []int64{1}), impl.ErrNone},
			faultyTable{name + " of the first domain", tablesOf(t, "1:1111 1:1311", []int64{0}, []int64{slot, 1}), impl.ErrNone},
			faultyTable{name + " of the last domain", tablesOf(t, "1:1111 1:1311", []int64{0}, []int64{1, slot}), impl.ErrNone},
		)
	}
	return list
}

// manyFaults turns tables in all ways in which several faults can stand together; the code is the one that is asked first.
func manyFaults(t *testing.T) []faultyTable {
	t.Helper()
	turns := []struct {
		name string
		code int64
		turn func(x *impl.Tables)
	}{
		{"registry", impl.ErrRange, func(x *impl.Tables) { x.Registry.Slots = append(x.Registry.Slots, impl.Slot{Count: -1}) }},
		{"many tags", impl.ErrMany, func(x *impl.Tables) { x.Tags = append(x.Tags, 0, 0, 0, 0, 0, 0, 0) }},
		{"many domains", impl.ErrMany, func(x *impl.Tables) { x.Domains = append(x.Domains, 0, 0, 0, 0, 0) }},
		{"tag of no slot", impl.ErrNone, func(x *impl.Tables) { x.Tags = append(x.Tags, 3) }},
		{"domain of no slot", impl.ErrNone, func(x *impl.Tables) { x.Domains = append(x.Domains, 9) }},
		{"tag of no thing", impl.ErrForm, func(x *impl.Tables) { x.Tags = slices.Insert(x.Tags, 0, 2) }},
		{"domain with a top", impl.ErrForm, func(x *impl.Tables) { x.Domains = slices.Insert(x.Domains, 0, 4) }},
		{"count", impl.ErrState, func(x *impl.Tables) { x.Registry.Slots[1].Count = 50 }},
	}
	list := []faultyTable{}
	for some := 1; some < 1<<len(turns); some++ {
		// The last slot has a top, and is meant by nobody until a domain is turned to it.
		x := faultyTable{tables: tables(t, "2:1111 1:1311 1:1*11 - 1:1J11 | 0 1 | 0 2"), code: impl.ErrState}
		for i := len(turns) - 1; i >= 0; i-- {
			if some>>i&1 == 1 {
				turns[i].turn(&x.tables)
				x.name, x.code = turns[i].name+", "+x.name, turns[i].code
			}
		}
		list = append(list, x)
	}
	return list
}

// tablesTold compares by all that there is.
func tablesTold(x impl.Tables) string {
	return fmt.Sprintf("%s | %d | %d", registryTold(x.Registry), x.Tags, x.Domains)
}

func wantTables(t *testing.T, what string, got impl.TablesResult, value int64, want impl.Tables) {
	t.Helper()
	if got.Code != impl.OK || got.Value != value || tablesTold(got.Tables) != tablesTold(want) {
		t.Errorf("%s: code %d, value %d, tables %s; want value %d, tables %s", what, got.Code, got.Value, tablesTold(got.Tables), value, tablesTold(want))
	}
}

// wantNoTables also asks that all but the code is zero.
func wantNoTables(t *testing.T, what string, got impl.TablesResult, code int64) {
	t.Helper()
	x := got.Tables
	if got.Code != code || got.Value != 0 || len(x.Registry.Slots) != 0 || len(x.Tags) != 0 || len(x.Domains) != 0 {
		t.Errorf("%s: code %d, value %d, tables %s; want code %d and all else zero", what, got.Code, got.Value, tablesTold(x), code)
	}
}

// notNumbers are no numbers of tags or domains, where there are so many; first is the number of the first one.
func notNumbers(first int64, many int) []int64 {
	end := first + int64(many)
	return []int64{first - 1, end, end + 1, first - 2, 10, 11, 1 << 32, 1<<32 + 1, -1 << 32, math.MinInt64, math.MinInt64 + 1, math.MaxInt64, math.MaxInt64 - 1}
}

func eachThing(visit func(l impl.Label)) {
	for n := range int64(4 * 4 * 4 * 4) {
		visit(labelOf(1+n/64, 1+n/16%4, 1+n/4%4, 1+n%4))
	}
}

// eachOwner goes through all labels that a domain can have.
func eachOwner(visit func(l impl.Label)) {
	for n := range int64(5 * 5 * 5 * 5) {
		visit(labelOf(n/125, n/25%5, n/5%5, n%5))
	}
}

// notThings are labels without a fault that no thing has.
func notThings(t *testing.T) []impl.Label {
	t.Helper()
	list := []impl.Label{}
	for _, text := range []string{"*111", "1*11", "11*1", "111*", "****", "J111", "1J11", "11J1", "111J", "JJJJ", "*11J", "*0*0"} {
		list = append(list, label(t, text))
	}
	return list
}

func topLabels(t *testing.T) []impl.Label {
	t.Helper()
	list := []impl.Label{}
	for _, text := range []string{"J111", "1J11", "11J1", "111J", "JJJJ", "*11J", "J***", "3J*0"} {
		list = append(list, label(t, text))
	}
	return list
}
