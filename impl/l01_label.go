package impl

const OK = 0
const ErrForm = 1
const ErrMany = 2
const ErrRange = 3
const ErrNone = 4
const ErrText = 5
const ErrDenied = 6
const ErrFull = 7
const ErrState = 8
const Categories = 4
const Star = 0
const Top = 5

type IntResult struct {
	Code  int64
	Value int64
}
type IntsResult struct {
	Code int64
	List []int64
}
type TextResult struct {
	Code int64
	Text string
}
type Label struct {
	Levels []int64
}
type LabelResult struct {
	Code  int64
	Label Label
}

// levels is an array so that handing it on copies it whole: no two labels can share memory through it.
type levels [Categories]int64

// signs has the sign of each level at that level's place.
var signs = [Top + 1]byte{'*', '0', '1', '2', '3', 'J'}

func LabelFault(l Label) int64 {
	if len(l.Levels) != Categories {
		return ErrMany
	}
	for _, level := range l.Levels {
		if level < Star || level > Top {
			return ErrRange
		}
	}
	return OK
}

func IsBelow(a Label, b Label) bool {
	if faultOfBoth(a, b) != OK {
		return false
	}
	upper := levelsOf(b)
	for category, level := range levelsOf(a) {
		if level > upper[category] {
			return false
		}
	}
	return true
}

func JoinLabels(a Label, b Label) LabelResult {
	if code := faultOfBoth(a, b); code != OK {
		return LabelResult{Code: code}
	}
	joined, other := levelsOf(a), levelsOf(b)
	for category, level := range other {
		joined[category] = max(joined[category], level)
	}
	return LabelResult{Label: labelOf(joined)}
}

func MeetLabels(a Label, b Label) LabelResult {
	if code := faultOfBoth(a, b); code != OK {
		return LabelResult{Code: code}
	}
	met, other := levelsOf(a), levelsOf(b)
	for category, level := range other {
		met[category] = min(met[category], level)
	}
	return LabelResult{Label: labelOf(met)}
}

func HighLabel(l Label) LabelResult {
	if code := LabelFault(l); code != OK {
		return LabelResult{Code: code}
	}
	high := levelsOf(l)
	for category, level := range levelsOf(l) {
		if level == Star {
			high[category] = Top
		}
	}
	return LabelResult{Label: labelOf(high)}
}

func OwnsAny(l Label) bool {
	return LabelFault(l) == OK && hasLevel(l, Star)
}

// A who with a fault has the zero label as its high one, which nothing is below.
func CanObserve(who Label, what Label) bool {
	return isThing(what) && IsBelow(what, HighLabel(who).Label)
}

func CanModify(who Label, what Label) bool {
	return CanObserve(who, what) && IsBelow(who, what)
}

func LabelText(l Label) TextResult {
	if code := LabelFault(l); code != OK {
		return TextResult{Code: code}
	}
	text := make([]byte, 0, Categories)
	for _, level := range levelsOf(l) {
		text = append(text, signs[level])
	}
	return TextResult{Text: string(text)}
}

func ParseLabel(text string) LabelResult {
	if len(text) != Categories {
		return LabelResult{Code: ErrText}
	}
	var read levels
	for category := range read {
		level, known := levelOfSign(text[category])
		if !known {
			return LabelResult{Code: ErrText}
		}
		read[category] = level
	}
	return LabelResult{Label: labelOf(read)}
}

// faultOfBoth tells the fault of a ahead of that of b, as all functions of two labels do.
func faultOfBoth(a Label, b Label) int64 {
	if code := LabelFault(a); code != OK {
		return code
	}
	return LabelFault(b)
}

func isThing(l Label) bool {
	return LabelFault(l) == OK && !hasLevel(l, Star) && !hasLevel(l, Top)
}

func hasLevel(l Label, wanted int64) bool {
	for _, level := range l.Levels {
		if level == wanted {
			return true
		}
	}
	return false
}

func levelOfSign(sign byte) (int64, bool) {
	for level, known := range signs {
		if known == sign {
			return int64(level), true
		}
	}
	return 0, false
}

func levelsOf(l Label) levels {
	var all levels
	copy(all[:], l.Levels)
	return all
}

func labelOf(all levels) Label {
	list := make([]int64, Categories)
	copy(list, all[:])
	return Label{Levels: list}
}
