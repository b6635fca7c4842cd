package tests

// Promise 2: below is an order; what is joined is the least above both, what is met the greatest below both; who may
// modify a thing may observe it; a label is read back from its text.

import (
	"strings"
	"testing"

	"loop.example/g00530/impl"
)

func TestLabelCodesAreTheTable(t *testing.T) {
	got := []int64{impl.OK, impl.ErrForm, impl.ErrMany, impl.ErrRange, impl.ErrNone, impl.ErrText, impl.ErrDenied, impl.ErrFull, impl.ErrState}
	for number, code := range got {
		if code != int64(number) {
			t.Errorf("code %d has the number %d", number, code)
		}
	}
	if impl.Categories != 4 || impl.Star != 0 || impl.Top != 5 {
		t.Error("the bounds of labels")
	}
}

func TestLabelFaultOfAllLevels(t *testing.T) {
	eachLabel(func(l impl.Label) {
		if code := impl.LabelFault(l); code != impl.OK {
			t.Errorf("%v: code %d", l.Levels, code)
		}
	})
	for _, f := range faultyLabels() {
		if code := impl.LabelFault(f.label); code != f.code {
			t.Errorf("%s %v: code %d; want %d", f.name, f.label.Levels, code, f.code)
		}
	}
}

func TestBelowRows(t *testing.T) {
	rows := []struct {
		a, b string
		want bool
	}{
		{"1111", "1111", true},
		{"*111", "1111", true},
		{"1111", "*111", false},
		{"1311", "1131", false},
		{"1131", "1311", false},
		{"1111", "1112", true},
		{"1112", "1111", false},
		{"****", "JJJJ", true},
		{"JJJJ", "****", false},
		{"3333", "JJJJ", true},
		{"JJJJ", "3333", false},
		{"****", "0000", true},
		{"0000", "****", false},
		{"JJJJ", "JJJJ", true},
		{"****", "****", true},
	}
	for _, row := range rows {
		if got := impl.IsBelow(label(t, row.a), label(t, row.b)); got != row.want {
			t.Errorf("IsBelow %s %s: %v", row.a, row.b, got)
		}
	}
}

func TestBelowIsLevelByLevel(t *testing.T) {
	eachPair(func(a, b impl.Label) {
		want := true
		for c, level := range a.Levels {
			want = want && level <= b.Levels[c]
		}
		if got := impl.IsBelow(a, b); got != want {
			t.Errorf("IsBelow %v %v: %v", a.Levels, b.Levels, got)
		}
	})
}

func TestBelowIsAnOrder(t *testing.T) {
	eachPair(func(a, b impl.Label) {
		if sameLabel(a, b) != (impl.IsBelow(a, b) && impl.IsBelow(b, a)) {
			t.Errorf("%v and %v are below each other, or one not below itself", a.Levels, b.Levels)
		}
	})
	few := fewLabels()
	for _, a := range few {
		for _, b := range few {
			for _, c := range few {
				if impl.IsBelow(a, b) && impl.IsBelow(b, c) && !impl.IsBelow(a, c) {
					t.Errorf("%v is below %v below %v", a.Levels, b.Levels, c.Levels)
				}
			}
		}
	}
}

func TestJoinAndMeetRows(t *testing.T) {
	rows := []struct{ a, b, joined, met string }{
		{"1311", "1131", "1331", "1111"},
		{"*111", "3111", "3111", "*111"},
		{"1*1J", "*1J1", "11JJ", "**11"},
		{"****", "JJJJ", "JJJJ", "****"},
		{"0123", "3210", "3223", "0110"},
		{"1111", "1111", "1111", "1111"},
	}
	for _, row := range rows {
		a, b := label(t, row.a), label(t, row.b)
		wantLabel(t, "join "+row.a+" "+row.b, impl.JoinLabels(a, b), label(t, row.joined))
		wantLabel(t, "join "+row.b+" "+row.a, impl.JoinLabels(b, a), label(t, row.joined))
		wantLabel(t, "meet "+row.a+" "+row.b, impl.MeetLabels(a, b), label(t, row.met))
		wantLabel(t, "meet "+row.b+" "+row.a, impl.MeetLabels(b, a), label(t, row.met))
	}
}

func TestJoinIsAboveAndMeetBelowBoth(t *testing.T) {
	eachPair(func(a, b impl.Label) {
		j, m := impl.JoinLabels(a, b), impl.MeetLabels(a, b)
		if j.Code != impl.OK || !impl.IsBelow(a, j.Label) || !impl.IsBelow(b, j.Label) {
			t.Errorf("%v and %v are not below what is joined: %v", a.Levels, b.Levels, j)
		}
		if m.Code != impl.OK || !impl.IsBelow(m.Label, a) || !impl.IsBelow(m.Label, b) {
			t.Errorf("%v and %v are not above what is met: %v", a.Levels, b.Levels, m)
		}
	})
}

func TestJoinIsLeastAndMeetGreatest(t *testing.T) {
	few := fewLabels()
	for _, a := range few {
		for _, b := range few {
			j, m := impl.JoinLabels(a, b).Label, impl.MeetLabels(a, b).Label
			for _, c := range few {
				if impl.IsBelow(a, c) && impl.IsBelow(b, c) && !impl.IsBelow(j, c) {
					t.Errorf("%v is above %v and %v, but not %v", c.Levels, a.Levels, b.Levels, j.Levels)
				}
				if impl.IsBelow(c, a) && impl.IsBelow(c, b) && !impl.IsBelow(c, m) {
					t.Errorf("%v is below %v and %v, but not %v", c.Levels, a.Levels, b.Levels, m.Levels)
				}
			}
		}
	}
}

func TestHighLabelTurnsStarsAlone(t *testing.T) {
	wantLabel(t, "high *111", impl.HighLabel(label(t, "*111")), label(t, "J111"))
	wantLabel(t, "high ****", impl.HighLabel(label(t, "****")), label(t, "JJJJ"))
	wantLabel(t, "high 0123", impl.HighLabel(label(t, "0123")), label(t, "0123"))
	wantLabel(t, "high J*0*", impl.HighLabel(label(t, "J*0*")), label(t, "JJ0J"))
	eachLabel(func(l impl.Label) {
		want := labelOf(l.Levels[0], l.Levels[1], l.Levels[2], l.Levels[3])
		for c, level := range l.Levels {
			if level == impl.Star {
				want.Levels[c] = impl.Top
			}
		}
		wantLabel(t, "high", impl.HighLabel(l), want)
	})
}

func TestOwnsAnyHasAStar(t *testing.T) {
	for text, want := range map[string]bool{"*111": true, "1*11": true, "11*1": true, "111*": true, "****": true, "1111": false, "0000": false, "JJJJ": false, "J1*0": true} {
		if got := impl.OwnsAny(label(t, text)); got != want {
			t.Errorf("OwnsAny %s: %v", text, got)
		}
	}
	eachLabel(func(l impl.Label) {
		want := l.Levels[0]*l.Levels[1]*l.Levels[2]*l.Levels[3] == 0
		if got := impl.OwnsAny(l); got != want {
			t.Errorf("OwnsAny %v: %v", l.Levels, got)
		}
	})
}

func TestObserveAndModifyRows(t *testing.T) {
	rows := []struct {
		who, what       string
		observe, modify bool
	}{
		{"*111", "3111", true, true},
		{"1111", "3111", false, false},
		{"3111", "1111", true, false},
		{"1111", "1111", true, true},
		{"****", "3333", true, true},
		{"****", "0000", true, true},
		{"0000", "0000", true, true},
		{"1*11", "3111", false, false},
		{"*311", "3111", true, false},
		{"JJJJ", "3333", true, false},
		{"J111", "1111", true, false},
		// What is no thing's label nobody may observe, whoever it is.
		{"JJJJ", "*111", false, false},
		{"****", "*111", false, false},
		{"****", "111*", false, false},
		{"****", "J111", false, false},
		{"JJJJ", "111J", false, false},
		{"JJJJ", "JJJJ", false, false},
		{"****", "****", false, false},
	}
	for _, row := range rows {
		who, what := label(t, row.who), label(t, row.what)
		if got := impl.CanObserve(who, what); got != row.observe {
			t.Errorf("CanObserve %s %s: %v", row.who, row.what, got)
		}
		if got := impl.CanModify(who, what); got != row.modify {
			t.Errorf("CanModify %s %s: %v", row.who, row.what, got)
		}
	}
}

func TestObserveAndModifyAreLevelByLevel(t *testing.T) {
	eachPair(func(who, what impl.Label) {
		observe, modify := true, true
		for c, level := range what.Levels {
			thing := level >= 1 && level <= 4
			observe = observe && thing && (who.Levels[c] == impl.Star || level <= who.Levels[c])
			modify = modify && who.Levels[c] <= level
		}
		if got := impl.CanObserve(who, what); got != observe {
			t.Errorf("CanObserve %v %v: %v", who.Levels, what.Levels, got)
		}
		if got := impl.CanModify(who, what); got != (observe && modify) {
			t.Errorf("CanModify %v %v: %v", who.Levels, what.Levels, got)
		}
	})
}

func TestWhoMayModifyMayObserve(t *testing.T) {
	eachPair(func(who, what impl.Label) {
		if impl.CanModify(who, what) && !impl.CanObserve(who, what) {
			t.Errorf("%v may modify %v, but not observe it", who.Levels, what.Levels)
		}
	})
}

func TestLabelTextRows(t *testing.T) {
	rows := []struct {
		label impl.Label
		text  string
	}{
		{labelOf(2, 0, 4, 5), "1*3J"},
		{labelOf(0, 1, 2, 3), "*012"},
		{labelOf(4, 5, 4, 5), "3J3J"},
		{labelOf(0, 0, 0, 0), "****"},
		{labelOf(1, 1, 1, 1), "0000"},
		{labelOf(5, 5, 5, 5), "JJJJ"},
	}
	for _, row := range rows {
		if got := impl.LabelText(row.label); got != (impl.TextResult{Text: row.text}) {
			t.Errorf("LabelText %v: %v; want %q", row.label.Levels, got, row.text)
		}
		wantLabel(t, "ParseLabel "+row.text, impl.ParseLabel(row.text), row.label)
	}
}

func TestLabelIsReadBackFromItsText(t *testing.T) {
	seen := map[string]impl.Label{}
	eachLabel(func(l impl.Label) {
		text := impl.LabelText(l)
		if text.Code != impl.OK || len(text.Text) != impl.Categories {
			t.Errorf("LabelText %v: %v", l.Levels, text)
		}
		if other, twice := seen[text.Text]; twice {
			t.Errorf("%v and %v have the text %q", other.Levels, l.Levels, text.Text)
		}
		seen[text.Text] = l
		wantLabel(t, "ParseLabel "+text.Text, impl.ParseLabel(text.Text), l)
	})
}

func TestParseLabelRefusesOtherTexts(t *testing.T) {
	texts := []string{"", "1", "11", "111", "11111", "1111 ", " 1111", "1111\n", "\n111", "11 1", "4111", "1114", "9111", "j111", "111j", "-111", "+111", "1.11", "\x00111", "111\x00", "é11", "11é", "１１１１", "1１", "\xff111", "111\xff", "Star", "1,1,1,1", "[1 1 1 1]", "\x01\x02\x03\x04", strings.Repeat("1", 1000)}
	for _, text := range texts {
		wantNoLabel(t, "ParseLabel "+text, impl.ParseLabel(text), impl.ErrText)
	}
}

func TestParseLabelKnowsSixBytes(t *testing.T) {
	for place := range impl.Categories {
		for value := range 256 {
			bytes := []byte("1*3J")
			bytes[place] = byte(value)
			text := string(bytes)
			if strings.IndexByte("*0123J", byte(value)) >= 0 {
				wantLabel(t, "ParseLabel "+text, impl.ParseLabel(text), label(t, text))
			} else {
				wantNoLabel(t, "ParseLabel "+text, impl.ParseLabel(text), impl.ErrText)
			}
		}
	}
}
