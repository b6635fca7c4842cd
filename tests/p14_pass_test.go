package tests

// Promise 14: who enters is never less tainted, but where it comes to own; who enters again is as before; who drops a star has it no
// more, and all others.

import (
	"fmt"
	"math/rand"
	"slices"
	"testing"

	"loop.example/g00530/impl"
)

func TestPassFaultOfGoodOnes(t *testing.T) {
	for _, p := range goodPasses(t) {
		wantPassFault(t, "a good pass", p, impl.OK)
	}
}

func TestPassFaultRows(t *testing.T) {
	for _, row := range []struct {
		label, guard string
		code         int64
	}{
		{"1111", "1111", impl.OK}, {"3333", "0000", impl.OK}, {"0000", "JJJJ", impl.OK},
		// A star in Label and a top in Guard are what they are for.
		{"*111", "1111", impl.OK}, {"111*", "1111", impl.OK}, {"****", "1111", impl.OK}, {"1111", "J111", impl.OK}, {"1111", "111J", impl.OK}, {"1111", "JJJJ", impl.OK}, {"****", "JJJJ", impl.OK},
		{"J111", "1111", impl.ErrForm}, {"1J11", "1111", impl.ErrForm}, {"11J1", "1111", impl.ErrForm}, {"111J", "1111", impl.ErrForm}, {"JJJJ", "1111", impl.ErrForm}, {"*11J", "1111", impl.ErrForm}, {"J***", "JJJJ", impl.ErrForm},
		{"1111", "*111", impl.ErrForm}, {"1111", "1*11", impl.ErrForm}, {"1111", "11*1", impl.ErrForm}, {"1111", "111*", impl.ErrForm}, {"1111", "****", impl.ErrForm}, {"1111", "J11*", impl.ErrForm}, {"****", "*JJJ", impl.ErrForm},
		{"J111", "*111", impl.ErrForm}, {"111J", "*111", impl.ErrForm}, {"JJJJ", "****", impl.ErrForm},
	} {
		wantPassFault(t, row.label+" "+row.guard, pass(t, row.label, row.guard), row.code)
	}
}

func TestPassFaultOfFaultyOnes(t *testing.T) {
	for _, f := range faultyPasses(t) {
		wantPassFault(t, f.name, f.pass, f.code)
		if plain := plainPassFault(f.pass); plain != f.code {
			t.Errorf("%s: the test's own telling says %d; want %d", f.name, plain, f.code)
		}
	}
}

func TestPassFaultOfEachPair(t *testing.T) {
	eachPair(func(a, b impl.Label) {
		p := impl.Pass{Label: a, Guard: b}
		wantPassFault(t, "a pair", p, plainPassFault(p))
	})
}

// enterRow is a pass, who asks for it, and what it has then; where that is empty it may not.
type enterRow struct {
	label, guard, who, has string
}

func enterRows() []enterRow {
	return []enterRow{
		{"*111", "3333", "1311", "*311"},
		// A Label that owns nothing taints, or leaves all as it is.
		{"1111", "3333", "1111", "1111"}, {"3333", "3333", "1111", "3333"}, {"0000", "3333", "1111", "1111"}, {"0000", "0000", "0000", "0000"}, {"0123", "3333", "3210", "3223"}, {"3210", "3333", "0123", "3223"},
		// One that owns one category, some, all.
		{"*111", "3333", "0000", "*111"}, {"111*", "3333", "0000", "111*"}, {"1*1*", "3333", "2222", "2*2*"}, {"****", "3333", "3210", "****"}, {"****", "0000", "0000", "****"},
		// Who owns what the pass owns, what it does not, both, nothing, all.
		{"*111", "3333", "*311", "*311"}, {"*111", "3333", "1*11", "**11"}, {"1111", "3333", "*311", "*311"}, {"3333", "3333", "*111", "*333"}, {"33*3", "3333", "*111", "*3*3"}, {"1111", "3333", "****", "****"}, {"****", "3333", "****", "****"}, {"111*", "3333", "11**", "11**"},
		// A star of each side alone at the first and the last category, beside the least and the greatest level of the other side.
		{"0111", "3333", "*111", "*111"}, {"3111", "3333", "*111", "*111"}, {"*111", "3333", "0111", "*111"}, {"*111", "3333", "3111", "*111"}, {"1110", "3333", "111*", "111*"}, {"1113", "3333", "111*", "111*"}, {"111*", "3333", "1110", "111*"}, {"111*", "3333", "1113", "111*"},
		// Just below the Guard, at it, and above it in one category by one level.
		{"1111", "1111", "1111", "1111"}, {"1111", "1111", "0111", "1111"}, {"1111", "1111", "1110", "1111"}, {"1111", "1111", "2111", ""}, {"1111", "1111", "1211", ""}, {"1111", "1111", "1121", ""}, {"1111", "1111", "1112", ""}, {"3333", "0123", "0123", "3333"}, {"3333", "0123", "1123", ""}, {"3333", "0123", "0223", ""}, {"3333", "0123", "0133", ""}, {"3333", "0123", "012J", ""},
		// What the pass owns does not help to enter, nor does being below in all others.
		{"*111", "1111", "2111", ""}, {"****", "1111", "0002", ""}, {"*111", "1111", "1311", ""}, {"****", "1111", "***2", ""},
		// Its own stars do, where the Guard is 1, the least that it can be.
		{"1111", "0000", "****", "****"}, {"1111", "0111", "*111", "*111"}, {"1111", "0111", "1111", ""}, {"1111", "1110", "111*", "111*"}, {"1111", "1110", "1111", ""}, {"1111", "0000", "***1", ""}, {"2222", "0000", "*0*0", "*2*2"},
		// A top of who's enters by a top alone, and stays, but where the pass owns.
		{"1111", "J333", "J111", "J111"}, {"3333", "JJJJ", "J11J", "J33J"}, {"1111", "3333", "J111", ""}, {"1111", "333J", "111J", "111J"}, {"1111", "3333", "111J", ""}, {"1111", "3JJJ", "J111", ""}, {"*111", "JJJJ", "J1J1", "*1J1"}, {"****", "JJJJ", "JJJJ", "****"}, {"0000", "JJJJ", "JJJJ", "JJJJ"}, {"****", "JJJ3", "JJJJ", ""},
	}
}

func TestEnterPassRows(t *testing.T) {
	for _, row := range enterRows() {
		p, who := pass(t, row.label, row.guard), label(t, row.who)
		what := fmt.Sprintf("Label %s, Guard %s by %s", row.label, row.guard, row.who)
		wantMayEnter(t, what, p, who, row.has != "")
		if row.has == "" {
			wantNoLabel(t, what, impl.EnterPass(p, who), impl.ErrDenied)
			continue
		}
		wantLabel(t, what, impl.EnterPass(p, who), label(t, row.has))
	}
}

// eachPassing goes through all levels of Label, Guard and who at one category and at another one, for the most part beside levels that
// let who in.
func eachPassing(t *testing.T, visit func(p impl.Pass, who impl.Label)) {
	t.Helper()
	levelsOf := func(n int) (int64, int64, int64) { return int64(n / 36), int64(n / 6 % 6), int64(n % 6) }
	for first := range 4 {
		for second := range first {
			for one := range 6 * 6 * 6 {
				for other := range 6 * 6 * 6 {
					p, who := pass(t, "1*13", "2J32"), label(t, "2*31")
					if one%7 == 3 {
						who = label(t, "13*J")
					}
					p.Label.Levels[first], p.Guard.Levels[first], who.Levels[first] = levelsOf(one)
					p.Label.Levels[second], p.Guard.Levels[second], who.Levels[second] = levelsOf(other)
					visit(p, who)
				}
			}
		}
	}
}

func TestEnterPassAtEachLevel(t *testing.T) {
	codes := map[int64]int{}
	eachPassing(t, func(p impl.Pass, who impl.Label) {
		want := plainEnterPass(p, who)
		codes[want.Code]++
		wantLabelAs(t, fmt.Sprintf("%v by %v", p, who), impl.EnterPass(p, who), want)
		wantMayEnter(t, "each level", p, who, want.Code == impl.OK)
	})
	for _, code := range []int64{impl.OK, impl.ErrForm, impl.ErrDenied} {
		if codes[code] < 10000 {
			t.Errorf("too few of code %d: %v", code, codes)
		}
	}
}

// Each label as who, of passes of each kind.
func TestEnterPassByEachLabel(t *testing.T) {
	passes := goodPasses(t)
	eachLabel(func(who impl.Label) {
		for _, p := range passes {
			wantLabelAs(t, fmt.Sprintf("%v by %v", p, who), impl.EnterPass(p, who), plainEnterPass(p, who))
			wantMayEnter(t, "a good pass", p, who, plainMayEnter(p, who))
		}
	})
}

func TestEnterPassOfAnyOnes(t *testing.T) {
	source, codes := rand.New(rand.NewSource(141)), map[int64]int{}
	for range 100000 {
		p, who := anyPass(source), anyWhich(source, 0, 5)
		if source.Intn(2) == 0 {
			who = anyBelow(source, p.Guard)
		}
		want := plainEnterPass(p, who)
		codes[want.Code]++
		wantLabelAs(t, fmt.Sprintf("%v by %v", p, who), impl.EnterPass(p, who), want)
		wantMayEnter(t, "any pass", p, who, want.Code == impl.OK)
		if t.Failed() {
			return
		}
	}
	for _, code := range []int64{impl.OK, impl.ErrDenied} {
		if codes[code] < 10000 {
			t.Errorf("too few of code %d: %v", code, codes)
		}
	}
}

// eachEntered visits passes, those who may enter, and what they have then.
func eachEntered(t *testing.T, visit func(p impl.Pass, who, has impl.Label)) {
	t.Helper()
	source, entered := rand.New(rand.NewSource(142)), 0
	enter := func(p impl.Pass, who impl.Label) {
		got := impl.EnterPass(p, who)
		if impl.MayEnter(p, who) != (got.Code == impl.OK) {
			t.Errorf("%v by %v: %v, but MayEnter %v", p, who, got, impl.MayEnter(p, who))
		}
		if got.Code == impl.OK {
			entered++
			visit(p, who, got.Label)
		}
	}
	for _, p := range goodPasses(t) {
		eachLabel(func(who impl.Label) { enter(p, who) })
	}
	for range 50000 {
		p := anyPass(source)
		enter(p, anyBelow(source, p.Guard))
	}
	if entered < 60000 {
		t.Errorf("only %d entered", entered)
	}
}

func TestWhoEntersIsNeverLessTainted(t *testing.T) {
	eachEntered(t, func(p impl.Pass, who, has impl.Label) {
		for category, level := range has.Levels {
			was, gained := who.Levels[category], p.Label.Levels[category]
			comesToOwn := was != impl.Star && gained == impl.Star
			if comesToOwn && level != impl.Star || !comesToOwn && level < was {
				t.Errorf("%v by %v: %v, at category %d", p, who, has, category)
			}
		}
	})
}

// Who enters keeps its stars, gains those of Label and no others, and sees all that it saw.
func TestWhoEntersOwnsWhatEitherOwns(t *testing.T) {
	few := []impl.Label{}
	for _, text := range []string{"0000", "1111", "1311", "3333", "0123", "3210", "1131"} {
		few = append(few, label(t, text))
	}
	eachEntered(t, func(p impl.Pass, who, has impl.Label) {
		stars := append(impl.StarsOf(who).List, impl.StarsOf(p.Label).List...)
		slices.Sort(stars)
		wantInts(t, fmt.Sprintf("the stars of %v by %v", p, who), impl.StarsOf(has), slices.Compact(stars)...)
		for _, thing := range few {
			if impl.CanObserve(who, thing) && !impl.CanObserve(has, thing) {
				t.Errorf("%v by %v: %v does not see %v any more", p, who, has, thing)
			}
		}
	})
}

// Who enters again, where it still may, is as before; where it may not, it is denied.
func TestWhoEntersAgainIsAsBefore(t *testing.T) {
	again, denied := 0, 0
	eachEntered(t, func(p impl.Pass, who, has impl.Label) {
		if impl.MayEnter(p, has) {
			again++
			wantLabel(t, fmt.Sprintf("%v by %v, again", p, who), impl.EnterPass(p, has), has)
			return
		}
		denied++
		wantNoLabel(t, fmt.Sprintf("%v by %v, again", p, who), impl.EnterPass(p, has), impl.ErrDenied)
	})
	if again < 10000 || denied < 10000 {
		t.Errorf("%d entered again, %d were denied", again, denied)
	}
}

func TestWhoEntersAgainRows(t *testing.T) {
	for _, row := range []struct {
		label, guard, who, has string
		again                  bool
	}{
		{"*111", "3333", "1311", "*311", true}, {"1111", "1111", "0000", "1111", true}, {"2111", "1111", "0000", "2111", false}, {"****", "0000", "0000", "****", true}, {"*333", "0111", "0111", "*333", false}, {"3333", "JJJJ", "J*0J", "J*3J", true}, {"1112", "3331", "0*01", "1*12", false}, {"111*", "3331", "0*01", "1*1*", true},
	} {
		p, has := pass(t, row.label, row.guard), label(t, row.has)
		what := fmt.Sprintf("Label %s, Guard %s by %s", row.label, row.guard, row.who)
		wantLabel(t, what, impl.EnterPass(p, label(t, row.who)), has)
		wantMayEnter(t, what+", again", p, has, row.again)
		if row.again {
			wantLabel(t, what+", again", impl.EnterPass(p, has), has)
		} else {
			wantNoLabel(t, what+", again", impl.EnterPass(p, has), impl.ErrDenied)
		}
	}
}

// Nobody is let in by being tainted: who is above who may not enter may not enter.
func TestWhoIsAboveWhoMayNotEnter(t *testing.T) {
	few := fewLabels()
	for _, p := range goodPasses(t) {
		for _, low := range few {
			for _, high := range few {
				if impl.IsBelow(low, high) && impl.MayEnter(p, high) && !impl.MayEnter(p, low) {
					t.Errorf("%v: %v may enter, %v below it may not", p, high, low)
				}
			}
		}
	}
}

func TestTaintLabelRows(t *testing.T) {
	for _, row := range []struct{ who, what, has string }{
		{"1111", "1111", "1111"}, {"1111", "3333", "3333"}, {"3333", "1111", "3333"}, {"1311", "1131", "1331"}, {"0123", "3210", "3223"}, {"0000", "0000", "0000"}, {"0000", "3333", "3333"},
		// Who owns, where what is 1 and where it is 4, at the first and the last category, beside others that are tainted.
		{"*111", "0111", "*111"}, {"*111", "3111", "*111"}, {"*111", "3311", "*311"}, {"111*", "1110", "111*"}, {"111*", "1113", "111*"}, {"111*", "1333", "133*"}, {"*0*0", "3333", "*3*3"}, {"****", "3333", "****"}, {"****", "0000", "****"},
		// A top stays.
		{"J111", "1111", "J111"}, {"J111", "3333", "J333"}, {"111J", "0000", "111J"}, {"JJJJ", "3333", "JJJJ"}, {"JJJJ", "0000", "JJJJ"}, {"J**0", "2222", "J**2"},
	} {
		wantLabel(t, row.who+" by "+row.what, impl.TaintLabel(label(t, row.who), label(t, row.what)), label(t, row.has))
	}
	for _, l := range notThings(t) {
		for _, who := range []string{"1111", "****", "JJJJ", "*1J1", "0000"} {
			wantNoLabel(t, fmt.Sprintf("%s by %v", who, l), impl.TaintLabel(label(t, who), l), impl.ErrForm)
		}
		wantNoLabel(t, "by itself", impl.TaintLabel(l, l), impl.ErrForm)
	}
	eachThing(func(l impl.Label) { wantLabel(t, "by what is alike", impl.TaintLabel(l, l), l) })
}

func TestTaintLabelOfEachPair(t *testing.T) {
	eachPair(func(who, what impl.Label) {
		got, want := impl.TaintLabel(who, what), plainTaintLabel(who, what)
		if got.Code != want.Code || !sameLabel(got.Label, want.Label) {
			t.Errorf("%v by %v: %v; want %v", who, what, got, want)
		}
	})
}

// Who is tainted is never less so, owns what it owned and nothing else, sees the thing that taints it, and is as before behind a
// second time.
func TestWhoIsTaintedIsNeverLessSo(t *testing.T) {
	things := []impl.Label{}
	for _, text := range []string{"0000", "1111", "2222", "3333", "0123", "3210", "1311", "1113", "3000"} {
		things = append(things, label(t, text))
	}
	eachLabel(func(who impl.Label) {
		for _, what := range things {
			got := impl.TaintLabel(who, what)
			if got.Code != impl.OK || !impl.IsBelow(who, got.Label) || !impl.CanObserve(got.Label, what) || !sameInts(impl.StarsOf(got.Label), impl.StarsOf(who)) {
				t.Errorf("%v by %v: %v", who, what, got)
			}
			wantLabel(t, "tainted twice", impl.TaintLabel(got.Label, what), got.Label)
		}
	})
}

// A label is tainted as a domain of tables that has it.
func TestTaintLabelIsAsOfADomain(t *testing.T) {
	eachOwner(func(who impl.Label) {
		for _, text := range []string{"0000", "1311", "3333", "0123"} {
			what := label(t, text)
			tainted := impl.TaintDomain(impl.AddDomain(impl.Tables{}, who).Tables, 0, what).Tables
			wantLabel(t, fmt.Sprintf("%v by %s", who, text), impl.TaintLabel(who, what), impl.DomainLabel(tainted, 0).Label)
		}
	})
}

func TestDropStarRows(t *testing.T) {
	for _, row := range []struct {
		who             string
		category, level int64
		has             string
	}{
		// The only star, at each category and with each level.
		{"*111", 0, 1, "0111"}, {"*111", 0, 2, "1111"}, {"*111", 0, 3, "2111"}, {"*111", 0, 4, "3111"}, {"1*11", 1, 4, "1311"}, {"11*1", 2, 1, "1101"}, {"111*", 3, 1, "1110"}, {"111*", 3, 4, "1113"},
		// One of several, of all, beside tops.
		{"**11", 0, 4, "3*11"}, {"**11", 1, 4, "*311"}, {"*11*", 0, 1, "011*"}, {"*11*", 3, 1, "*110"}, {"****", 0, 1, "0***"}, {"****", 1, 2, "*1**"}, {"****", 2, 3, "**2*"}, {"****", 3, 4, "***3"}, {"J*J*", 1, 1, "J0J*"}, {"JJJ*", 3, 4, "JJJ3"},
	} {
		wantLabel(t, fmt.Sprintf("%s %d %d", row.who, row.category, row.level), impl.DropStar(label(t, row.who), row.category, row.level), label(t, row.has))
	}
	for _, row := range []struct {
		who             string
		category, level int64
		code            int64
	}{
		{"****", -1, 1, impl.ErrRange}, {"****", 4, 1, impl.ErrRange}, {"****", 0, 0, impl.ErrRange}, {"****", 0, 5, impl.ErrRange}, {"****", 3, 0, impl.ErrRange}, {"****", 3, 5, impl.ErrRange}, {"****", 0, -1, impl.ErrRange}, {"****", 0, 6, impl.ErrRange}, {"****", -1, 0, impl.ErrRange}, {"****", 4, 5, impl.ErrRange}, {"****", -1, 5, impl.ErrRange}, {"****", 4, 0, impl.ErrRange},
		// What leaves its bounds is told ahead of what is not owned.
		{"1111", 0, 0, impl.ErrRange}, {"1111", 0, 5, impl.ErrRange}, {"1111", 4, 1, impl.ErrRange}, {"1111", -1, 1, impl.ErrRange}, {"JJJJ", 3, 5, impl.ErrRange}, {"JJJJ", 3, 0, impl.ErrRange},
		{"1111", 0, 1, impl.ErrNone}, {"1111", 0, 4, impl.ErrNone}, {"1111", 3, 1, impl.ErrNone}, {"1111", 3, 4, impl.ErrNone}, {"1***", 0, 4, impl.ErrNone}, {"***1", 3, 4, impl.ErrNone}, {"0***", 0, 1, impl.ErrNone}, {"J***", 0, 4, impl.ErrNone}, {"***J", 3, 4, impl.ErrNone}, {"JJJJ", 2, 2, impl.ErrNone}, {"*111", 1, 2, impl.ErrNone}, {"111*", 2, 2, impl.ErrNone},
	} {
		wantNoLabel(t, fmt.Sprintf("%s %d %d", row.who, row.category, row.level), impl.DropStar(label(t, row.who), row.category, row.level), row.code)
	}
}

func TestDropStarOfEachLabel(t *testing.T) {
	places, levels := placesAndLevels()
	eachLabel(func(who impl.Label) {
		for _, category := range places {
			for _, level := range levels {
				wantLabelAs(t, fmt.Sprintf("%v %d %d", who, category, level), impl.DropStar(who, category, level), plainDropStar(who, category, level))
			}
		}
	})
}

// Who drops a star has it no more and has all others, all other levels too, and cannot drop it again.
func TestWhoDropsAStarHasItNoMore(t *testing.T) {
	dropped := 0
	eachLabel(func(who impl.Label) {
		owned := impl.StarsOf(who).List
		for place, category := range owned {
			for level := int64(1); level <= 4; level++ {
				got := impl.DropStar(who, category, level)
				if got.Code != impl.OK || got.Label.Levels[category] != level || !impl.IsBelow(who, got.Label) {
					t.Errorf("%v without %d: %v", who, category, got)
					continue
				}
				wantInts(t, fmt.Sprintf("%v without %d", who, category), impl.StarsOf(got.Label), slices.Delete(slices.Clone(owned), place, place+1)...)
				back := slices.Clone(got.Label.Levels)
				back[category] = impl.Star
				if !slices.Equal(back, who.Levels) {
					t.Errorf("%v without %d: %v, in which more was turned", who, category, got)
				}
				wantNoLabel(t, "dropped again", impl.DropStar(got.Label, category, level), impl.ErrNone)
				dropped++
			}
		}
	})
	if dropped != 4*216*4 {
		t.Errorf("%d were dropped", dropped)
	}
}

// Who drops all, one by one in any order, owns nothing; a pass of the star that was dropped gives it back, and nothing else.
func TestWhoDropsAStarMayEnterForIt(t *testing.T) {
	for _, order := range [][]int64{{0, 1, 2, 3}, {3, 2, 1, 0}, {2, 0, 3, 1}} {
		who := label(t, "****")
		for n, category := range order {
			low := impl.DropStar(who, category, int64(n)+1)
			wantMayEnter(t, "all may", pass(t, "0000", "3333"), low.Label, true)
			gives := pass(t, "0000", "3333")
			gives.Label.Levels[category] = impl.Star
			wantLabel(t, fmt.Sprint("back to ", who), impl.EnterPass(gives, low.Label), who)
			who = low.Label
		}
		if impl.OwnsAny(who) {
			t.Errorf("%v owns something", who)
		}
		wantInts(t, "none left", impl.StarsOf(who))
	}
}

func TestStarsOfRows(t *testing.T) {
	for text, stars := range map[string][]int64{
		"1111": {}, "0000": {}, "3333": {}, "JJJJ": {}, "0123": {}, "*111": {0}, "1*11": {1}, "11*1": {2}, "111*": {3}, "*11*": {0, 3}, "**11": {0, 1}, "11**": {2, 3}, "1*1*": {1, 3}, "*J*J": {0, 2}, "***1": {0, 1, 2}, "1***": {1, 2, 3}, "****": {0, 1, 2, 3}, "J***": {1, 2, 3}, "***0": {0, 1, 2},
	} {
		wantInts(t, text, impl.StarsOf(label(t, text)), stars...)
	}
	eachLabel(func(l impl.Label) {
		got := impl.StarsOf(l)
		wantStars(t, fmt.Sprint(l), got, plainStars(l))
		if impl.OwnsAny(l) != (len(got.List) > 0) {
			t.Errorf("%v: %v, but OwnsAny %v", l, got, impl.OwnsAny(l))
		}
	})
}
