package tests

import (
	"fmt"
	"math"
	"slices"
	"strconv"
	"strings"
	"testing"

	"loop.example/g00530/impl"
)

// registry reads slots with blanks between: "2:1311" is a label that is meant twice, "-" is an empty slot.
func registry(t *testing.T, text string) impl.Registry {
	t.Helper()
	slots := []impl.Slot{}
	for _, word := range strings.Fields(text) {
		if word == "-" {
			slots = append(slots, impl.Slot{})
			continue
		}
		count, sign, _ := strings.Cut(word, ":")
		number, err := strconv.ParseInt(count, 10, 64)
		if err != nil {
			t.Fatalf("the test's own registry %q: %v", text, err)
		}
		slots = append(slots, impl.Slot{Count: number, Label: label(t, sign)})
	}
	return impl.Registry{Slots: slots}
}

// tenLabels are as many as a registry has room for, and all of them others.
func tenLabels(t *testing.T) []impl.Label {
	t.Helper()
	list := []impl.Label{}
	for _, text := range []string{"1111", "1311", "*111", "111*", "J111", "0000", "3333", "****", "JJJJ", "0123"} {
		list = append(list, label(t, text))
	}
	return list
}

// fullRegistry has ten slots, each with a label that is meant count times.
func fullRegistry(t *testing.T, count int64) impl.Registry {
	t.Helper()
	slots := []impl.Slot{}
	for _, l := range tenLabels(t) {
		slots = append(slots, impl.Slot{Count: count, Label: l})
	}
	return impl.Registry{Slots: slots}
}

// goodRegistries are as texts what a registry can be: empty, filled, and with slots that are empty anywhere.
func goodRegistries() []string {
	full := "1:1111 1:1311 1:*111 1:111* 1:J111 1:0000 1:3333 1:**** 1:JJJJ 1:0123"
	return []string{
		"",
		"-",
		"- -",
		"- - - - - - - - - -",
		"1:1311",
		"99:1311",
		"98:1111",
		"2:1311 1:1111",
		"- 1:1311",
		"1:1311 -",
		"- - 5:1311",
		"3:1111 - 2:1311",
		"3:1111 - - 2:1311 - 1:0000 -",
		"- 99:**** - 98:JJJJ -",
		full,
		strings.Replace(full, "1:1111", "-", 1),
		strings.Replace(full, "1:J111", "-", 1),
		strings.Replace(full, "1:0123", "-", 1),
		strings.Replace(strings.Replace(full, "1:1311", "-", 1), "1:****", "-", 1),
		strings.ReplaceAll(full, "1:", "99:"),
	}
}

type faultyRegistry struct {
	name     string
	registry impl.Registry
	code     int64
}

// faultySlots have a fault each whatever stands ahead of them.
func faultySlots(t *testing.T) []struct {
	name string
	slot impl.Slot
	code int64
} {
	t.Helper()
	good := label(t, "1212")
	return []struct {
		name string
		slot impl.Slot
		code int64
	}{
		{"a count below 0", impl.Slot{Count: -1, Label: good}, impl.ErrRange},
		{"a count above 99", impl.Slot{Count: 100, Label: good}, impl.ErrRange},
		{"the least count", impl.Slot{Count: math.MinInt64, Label: good}, impl.ErrRange},
		{"the greatest count", impl.Slot{Count: math.MaxInt64, Label: good}, impl.ErrRange},
		{"a count that is 1 in its low bits", impl.Slot{Count: 1<<32 + 1, Label: good}, impl.ErrRange},
		{"a count below 0 without a label", impl.Slot{Count: -1}, impl.ErrRange},
		{"a count above 99 with too few levels", impl.Slot{Count: 100, Label: labelOf(1, 1)}, impl.ErrRange},
		{"empty with a label", impl.Slot{Label: good}, impl.ErrForm},
		{"empty with one level", impl.Slot{Label: labelOf(1)}, impl.ErrForm},
		{"empty with a star alone", impl.Slot{Label: labelOf(0)}, impl.ErrForm},
		{"empty with too many levels", impl.Slot{Label: labelOf(1, 1, 1, 1, 1)}, impl.ErrForm},
		{"empty with levels out of bounds", impl.Slot{Label: labelOf(-1, 9, 1, 1)}, impl.ErrForm},
		{"meant without a label", impl.Slot{Count: 1}, impl.ErrMany},
		{"meant often without a label", impl.Slot{Count: 99, Label: labelOf([]int64{}...)}, impl.ErrMany},
		{"too few levels", impl.Slot{Count: 1, Label: labelOf(1, 1, 1)}, impl.ErrMany},
		{"too many levels", impl.Slot{Count: 1, Label: labelOf(1, 1, 1, 1, 1)}, impl.ErrMany},
		{"too many levels, and out of bounds", impl.Slot{Count: 1, Label: labelOf(1, 1, 1, 1, 9)}, impl.ErrMany},
		{"a level below 0", impl.Slot{Count: 1, Label: labelOf(1, 1, 1, -1)}, impl.ErrRange},
		{"a level above 5", impl.Slot{Count: 99, Label: labelOf(6, 1, 1, 1)}, impl.ErrRange},
	}
}

// faultyRegistries have each fault at each place, behind and ahead of good slots.
func faultyRegistries(t *testing.T) []faultyRegistry {
	t.Helper()
	list := []faultyRegistry{}
	for _, f := range faultySlots(t) {
		for _, place := range []int{0, 1, 4, 9} {
			r := fullRegistry(t, 1)
			r.Slots[place] = f.slot
			list = append(list, faultyRegistry{fmt.Sprintf("%s at %d", f.name, place), r, f.code})
		}
		list = append(list, faultyRegistry{f.name + " alone", impl.Registry{Slots: []impl.Slot{f.slot}}, f.code})
	}
	eleven := append(fullRegistry(t, 1).Slots, impl.Slot{Count: 1, Label: label(t, "1212")})
	elevenFaulty := slices.Clone(eleven)
	elevenFaulty[0] = impl.Slot{Count: -1, Label: labelOf(9)}
	list = append(list,
		faultyRegistry{"eleven slots", impl.Registry{Slots: eleven}, impl.ErrMany},
		faultyRegistry{"eleven slots, the last one empty", registry(t, strings.Repeat("- ", 10)+"-"), impl.ErrMany},
		faultyRegistry{"eleven slots, the first one faulty", impl.Registry{Slots: elevenFaulty}, impl.ErrMany},
		faultyRegistry{"a thousand slots", registry(t, strings.Repeat("- ", 1000)), impl.ErrMany},
	)
	for _, text := range []string{"1:1311 1:1311", "2:1311 - 5:1311", "- 1:1111 1:1311 1:1111", "1:**** 99:****", "1:1111 1:1311 1:1311 1:1111", "- 1:JJJJ - - - - - - - 1:JJJJ"} {
		list = append(list, faultyRegistry{"a label twice: " + text, registry(t, text), impl.ErrState})
	}
	return list
}

// registryTold compares by all that there is, without SameRegistries.
func registryTold(r impl.Registry) string {
	told := []string{}
	for _, s := range r.Slots {
		told = append(told, fmt.Sprint(s.Count, s.Label.Levels))
	}
	return strings.Join(told, " ")
}

func wantRegistry(t *testing.T, what string, got impl.RegistryResult, value int64, want impl.Registry) {
	t.Helper()
	if got.Code != impl.OK || got.Value != value || registryTold(got.Registry) != registryTold(want) {
		t.Errorf("%s: code %d, value %d, registry %s; want value %d, registry %s", what, got.Code, got.Value, registryTold(got.Registry), value, registryTold(want))
	}
}

// wantNoRegistry also asks that all but the code is zero.
func wantNoRegistry(t *testing.T, what string, got impl.RegistryResult, code int64) {
	t.Helper()
	if got.Code != code || got.Value != 0 || len(got.Registry.Slots) != 0 {
		t.Errorf("%s: code %d, value %d, registry %s; want code %d and all else zero", what, got.Code, got.Value, registryTold(got.Registry), code)
	}
}

func wantInt(t *testing.T, what string, got impl.IntResult, value int64) {
	t.Helper()
	if got != (impl.IntResult{Value: value}) {
		t.Errorf("%s: code %d, value %d; want value %d", what, got.Code, got.Value, value)
	}
}

func wantNoInt(t *testing.T, what string, got impl.IntResult, code int64) {
	t.Helper()
	if got != (impl.IntResult{Code: code}) {
		t.Errorf("%s: code %d, value %d; want code %d and no value", what, got.Code, got.Value, code)
	}
}
