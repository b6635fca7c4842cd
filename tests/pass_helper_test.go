package tests

import (
	"math"
	"math/rand"
	"slices"
	"testing"

	"loop.example/g00530/impl"
)

// pass is one of a Label and a Guard, as texts.
func pass(t *testing.T, text, guard string) impl.Pass {
	t.Helper()
	return impl.Pass{Label: label(t, text), Guard: label(t, guard)}
}

// firstCode is the first of several that is not OK.
func firstCode(codes ...int64) int64 {
	for _, code := range codes {
		if code != impl.OK {
			return code
		}
	}
	return impl.OK
}

// codeWhere is a code where something is so.
func codeWhere(so bool, code int64) int64 {
	if so {
		return code
	}
	return impl.OK
}

func plainPassFault(p impl.Pass) int64 {
	return firstCode(plainLabelFault(p.Label), plainLabelFault(p.Guard), codeWhere(slices.Contains(p.Label.Levels, 5) || slices.Contains(p.Guard.Levels, 0), impl.ErrForm))
}

// plainAbove tells whether some level of who is above that of the Guard; neither has a fault.
func plainAbove(who, guard impl.Label) bool {
	for category, level := range who.Levels {
		if level > guard.Levels[category] {
			return true
		}
	}
	return false
}

func plainMayEnter(p impl.Pass, who impl.Label) bool {
	return plainPassFault(p) == impl.OK && plainLabelFault(who) == impl.OK && !plainAbove(who, p.Guard)
}

func plainEnterPass(p impl.Pass, who impl.Label) impl.LabelResult {
	if code := firstCode(plainPassFault(p), plainLabelFault(who)); code != impl.OK {
		return impl.LabelResult{Code: code}
	}
	if plainAbove(who, p.Guard) {
		return impl.LabelResult{Code: impl.ErrDenied}
	}
	levels := []int64{}
	for category, level := range who.Levels {
		gained := p.Label.Levels[category]
		switch {
		case level*gained == 0:
			levels = append(levels, 0)
		case level < gained:
			levels = append(levels, gained)
		default:
			levels = append(levels, level)
		}
	}
	return impl.LabelResult{Label: labelOf(levels...)}
}

func plainTaintLabel(who, what impl.Label) impl.LabelResult {
	if code := firstCode(plainLabelFault(who), plainThingFault(what)); code != impl.OK {
		return impl.LabelResult{Code: code}
	}
	levels := []int64{}
	for category, level := range who.Levels {
		if level != 0 && level < what.Levels[category] {
			level = what.Levels[category]
		}
		levels = append(levels, level)
	}
	return impl.LabelResult{Label: labelOf(levels...)}
}

func plainDropStar(who impl.Label, category, level int64) impl.LabelResult {
	outside := category < 0 || category > 3 || level < 1 || level > 4
	if code := firstCode(plainLabelFault(who), codeWhere(outside, impl.ErrRange)); code != impl.OK {
		return impl.LabelResult{Code: code}
	}
	if who.Levels[category] != 0 {
		return impl.LabelResult{Code: impl.ErrNone}
	}
	levels := slices.Clone(who.Levels)
	levels[category] = level
	return impl.LabelResult{Label: labelOf(levels...)}
}

func plainStars(l impl.Label) impl.IntsResult {
	if code := plainLabelFault(l); code != impl.OK {
		return impl.IntsResult{Code: code}
	}
	list := []int64{}
	for category := range int64(4) {
		if l.Levels[category] == 0 {
			list = append(list, category)
		}
	}
	return impl.IntsResult{List: list}
}

func wantPassFault(t *testing.T, what string, p impl.Pass, code int64) {
	t.Helper()
	if got := impl.PassFault(p); got != code {
		t.Errorf("%s: code %d; want %d: %v", what, got, code, p)
	}
}

func wantMayEnter(t *testing.T, what string, p impl.Pass, who impl.Label, want bool) {
	t.Helper()
	if got := impl.MayEnter(p, who); got != want {
		t.Errorf("%s: %v; want %v: %v by %v", what, got, want, p, who)
	}
}

// wantLabelAs asks for a label, or for a code and no label.
func wantLabelAs(t *testing.T, what string, got, want impl.LabelResult) {
	t.Helper()
	if want.Code != impl.OK {
		wantNoLabel(t, what, got, want.Code)
		return
	}
	wantLabel(t, what, got, want.Label)
}

// wantStars asks for these alone, or for a code and none.
func wantStars(t *testing.T, what string, got, want impl.IntsResult) {
	t.Helper()
	if !sameInts(got, want) {
		t.Errorf("%s: %v; want %v", what, got, want)
	}
}

type faultyPass struct {
	name string
	pass impl.Pass
	code int64
}

// faultyPasses have each fault of Label, of Guard, of both, and what neither may have, at each category.
func faultyPasses(t *testing.T) []faultyPass {
	t.Helper()
	good := pass(t, "*111", "J333")
	list := []faultyPass{}
	for _, f := range faultyLabels() {
		list = append(list,
			faultyPass{"Label: " + f.name, impl.Pass{Label: f.label, Guard: good.Guard}, f.code},
			faultyPass{"Guard: " + f.name, impl.Pass{Label: good.Label, Guard: f.label}, f.code},
			faultyPass{"Label: " + f.name + ", Guard with a star", impl.Pass{Label: f.label, Guard: label(t, "*333")}, f.code},
			faultyPass{"Label with a top, Guard: " + f.name, impl.Pass{Label: label(t, "J111"), Guard: f.label}, f.code},
		)
		for _, g := range faultyLabels() {
			list = append(list, faultyPass{"Label: " + f.name + ", Guard: " + g.name, impl.Pass{Label: f.label, Guard: g.label}, f.code})
		}
	}
	for category := range 4 {
		top, star := slices.Clone(good.Label.Levels), slices.Clone(good.Guard.Levels)
		top[category], star[category] = 5, 0
		list = append(list,
			faultyPass{"Label with a top", impl.Pass{Label: labelOf(top...), Guard: good.Guard}, impl.ErrForm},
			faultyPass{"Guard with a star", impl.Pass{Label: good.Label, Guard: labelOf(star...)}, impl.ErrForm},
			faultyPass{"Label with a top, Guard with a star", impl.Pass{Label: labelOf(top...), Guard: labelOf(star...)}, impl.ErrForm},
		)
	}
	return append(list,
		faultyPass{"the zero pass", impl.Pass{}, impl.ErrMany},
		faultyPass{"all tops, all stars", pass(t, "JJJJ", "****"), impl.ErrForm},
		faultyPass{"too few, then out of bounds", impl.Pass{Label: labelOf(1, 1, 1), Guard: labelOf(6, 1, 1, 1)}, impl.ErrMany},
		faultyPass{"out of bounds, then too few", impl.Pass{Label: labelOf(6, 1, 1, 1), Guard: labelOf(1, 1, 1)}, impl.ErrRange},
	)
}

// goodPasses own nothing, one category, some, all, with guards at each level.
func goodPasses(t *testing.T) []impl.Pass {
	t.Helper()
	list := []impl.Pass{}
	for _, text := range []string{"1111", "0000", "3333", "0123", "*111", "111*", "1*1*", "*3*0", "****"} {
		for _, guard := range []string{"0000", "1111", "2222", "3333", "JJJJ", "0123", "J111", "111J", "3J0J"} {
			list = append(list, pass(t, text, guard))
		}
	}
	return list
}

// anyWhich is a label with levels from least to greatest.
func anyWhich(source *rand.Rand, least, greatest int64) impl.Label {
	levels := make([]int64, 4)
	for category := range levels {
		levels[category] = least + source.Int63n(greatest-least+1)
	}
	return labelOf(levels...)
}

// anyPass is without a fault.
func anyPass(source *rand.Rand) impl.Pass {
	return impl.Pass{Label: anyWhich(source, 0, 4), Guard: anyWhich(source, 1, 5)}
}

// anyBelow is somebody who may enter.
func anyBelow(source *rand.Rand, guard impl.Label) impl.Label {
	levels := make([]int64, 4)
	for category := range levels {
		levels[category] = source.Int63n(guard.Levels[category] + 1)
	}
	return labelOf(levels...)
}

// spoiltLabel is a label with one fault, or with a level that a label may have and who holds it may not.
func spoiltLabel(source *rand.Rand, l impl.Label) impl.Label {
	levels := slices.Clone(l.Levels)
	switch source.Intn(5) {
	case 0:
		levels = levels[:source.Intn(4)]
	case 1:
		levels = append(levels, source.Int63n(6))
	case 2:
		levels[source.Intn(4)] = -1 - source.Int63n(3)
	case 3:
		levels[source.Intn(4)] = 6 + source.Int63n(3)
	default:
		levels[source.Intn(4)] = []int64{0, 5, math.MinInt64, math.MaxInt64}[source.Intn(4)]
	}
	return labelOf(levels...)
}

// placesAndLevels are what DropStar can be told, within bounds, at their edges and far out.
func placesAndLevels() (places []int64, levels []int64) {
	places = append(farNumbers(), -1, 0, 1, 2, 3, 4, 5, 6)
	levels = append(farNumbers(), -1, 0, 1, 2, 3, 4, 5, 6, 7)
	return places, levels
}
