package tests

import (
	"math"
	"slices"
	"testing"

	"loop.example/g00530/impl"
)

func labelOf(levels ...int64) impl.Label {
	return impl.Label{Levels: levels}
}

// label reads a text by a table of its own, so that a test of ParseLabel does not lean on ParseLabel.
func label(t *testing.T, text string) impl.Label {
	t.Helper()
	levels := []int64{}
	for _, sign := range text {
		level, known := map[rune]int64{'*': 0, '0': 1, '1': 2, '2': 3, '3': 4, 'J': 5}[sign]
		if !known {
			t.Fatalf("the test's own label %q has the sign %q", text, sign)
		}
		levels = append(levels, level)
	}
	return impl.Label{Levels: levels}
}

func eachLabel(visit func(l impl.Label)) {
	for n := range int64(6 * 6 * 6 * 6) {
		visit(labelOf(n/216, n/36%6, n/6%6, n%6))
	}
}

func eachPair(visit func(a, b impl.Label)) {
	eachLabel(func(a impl.Label) {
		eachLabel(func(b impl.Label) { visit(a, b) })
	})
}

// fewLabels are few enough for triples: all of two categories, beside two that differ.
func fewLabels() []impl.Label {
	list := []impl.Label{}
	for x := range int64(6) {
		for y := range int64(6) {
			list = append(list, labelOf(x, 2, y, 3), labelOf(4, y, 1, x))
		}
	}
	return list
}

type faultyLabel struct {
	name  string
	label impl.Label
	code  int64
}

func faultyLabels() []faultyLabel {
	return []faultyLabel{
		{"nil", impl.Label{}, impl.ErrMany},
		{"empty", labelOf([]int64{}...), impl.ErrMany},
		{"one level", labelOf(1), impl.ErrMany},
		{"one too few", labelOf(1, 1, 1), impl.ErrMany},
		{"one too many", labelOf(1, 1, 1, 1, 1), impl.ErrMany},
		{"too few stars", labelOf(0, 0, 0), impl.ErrMany},
		{"too many stars", labelOf(0, 0, 0, 0, 0), impl.ErrMany},
		{"a fourth level behind the end", impl.Label{Levels: []int64{1, 1, 1, 1}[:3]}, impl.ErrMany},
		{"too few, and out of bounds", labelOf(-1, 6, 1), impl.ErrMany},
		{"too many, and out of bounds", labelOf(1, 1, 1, 1, 6), impl.ErrMany},
		{"first below", labelOf(-1, 1, 1, 1), impl.ErrRange},
		{"last below", labelOf(1, 1, 1, -1), impl.ErrRange},
		{"first above", labelOf(6, 1, 1, 1), impl.ErrRange},
		{"last above", labelOf(1, 1, 1, 6), impl.ErrRange},
		{"a star, then above", labelOf(0, 1, 7, 1), impl.ErrRange},
		{"least number", labelOf(1, math.MinInt64, 1, 1), impl.ErrRange},
		{"greatest number", labelOf(1, 1, math.MaxInt64, 1), impl.ErrRange},
		{"a level in its low bits", labelOf(1, 1<<32+1, 1, 1), impl.ErrRange},
	}
}

func sameLabel(a, b impl.Label) bool {
	return slices.Equal(a.Levels, b.Levels)
}

func wantLabel(t *testing.T, what string, got impl.LabelResult, want impl.Label) {
	t.Helper()
	if got.Code != impl.OK || !sameLabel(got.Label, want) {
		t.Errorf("%s: code %d, levels %v; want levels %v", what, got.Code, got.Label.Levels, want.Levels)
	}
}

// wantNoLabel also asks that all but the code is zero.
func wantNoLabel(t *testing.T, what string, got impl.LabelResult, code int64) {
	t.Helper()
	if got.Code != code || len(got.Label.Levels) != 0 {
		t.Errorf("%s: code %d, levels %v; want code %d and no levels", what, got.Code, got.Label.Levels, code)
	}
}
