package tests

// Promise 12: an object is found by its path, and the names of what is in a box are all of its own.

import (
	"fmt"
	"math"
	"math/rand"
	"slices"
	"strings"
	"testing"

	"loop.example/g00530/impl"
)

func TestObjectBounds(t *testing.T) {
	got := []int64{impl.KindBox, impl.KindText, impl.MaxObjects, impl.MaxQuota}
	if want := []int64{1, 2, 12, 200}; !slices.Equal(got, want) {
		t.Errorf("%v; want %v", got, want)
	}
}

func TestKernelFaultOfGoodOnes(t *testing.T) {
	for _, text := range append(goodKernels(), standardKernel) {
		wantKernelFault(t, text, kernel(t, text), impl.OK)
	}
}

func TestKernelFaultOfFaultyOnes(t *testing.T) {
	for _, f := range faultyKernels(t) {
		wantKernelFault(t, f.name, f.kernel, f.code)
	}
}

func TestKernelFaultOfHowManyThereAre(t *testing.T) {
	for many := range 16 {
		want := int64(impl.ErrMany)
		if many >= 1 && many <= 12 {
			want = impl.OK
		}
		wide := "box -1 0 1111 200 100" + strings.Join(textsOf(max(0, many-1), func(n int) string { return fmt.Sprintf("; text 0 %d 1111 1", 1+n) }), "")
		deep := "box -1 0 1111 200 2" + strings.Join(textsOf(max(0, many-1), func(n int) string { return fmt.Sprintf("; box %d 1 1111 9 2", n) }), "")
		for _, text := range []string{wide, deep} {
			k := kernel(t, text)
			k.Objects = k.Objects[:min(many, len(k.Objects))]
			wantKernelFault(t, fmt.Sprint(many, " objects"), k, want)
		}
	}
}

// The edges of each field, where it is right and where it is not.
func TestKernelFaultRows(t *testing.T) {
	for _, row := range []struct {
		text string
		code int64
	}{
		{"box -1 0 1111 0 1", impl.OK}, {"box -1 0 1111 200 1", impl.OK}, {"box -1 0 1111 201 1", impl.ErrRange}, {"box -1 0 1111 -1 1", impl.ErrRange},
		{"box -1 0 1111 50 0", impl.ErrRange}, {"box -1 0 1111 50 -1", impl.ErrRange}, {"box -1 0 1111 50 100", impl.OK}, {"box -1 0 1111 50 101", impl.ErrRange},
		{"box -1 0 0000 50 1", impl.OK}, {"box -1 0 3333 50 1", impl.OK}, {"box -1 0 *111 50 1", impl.ErrForm}, {"box -1 0 111J 50 1", impl.ErrForm}, {"box -1 0 *JJ* 50 1", impl.ErrForm},
		{"box 0 0 1111 50 1", impl.ErrNone}, {"box 1 0 1111 50 1", impl.ErrNone}, {"box -2 0 1111 50 1", impl.ErrNone}, {"box -1 1 1111 50 2", impl.ErrNone}, {"box -1 -1 1111 50 1", impl.ErrNone},
		{"text -1 0 1111 50 1", impl.ErrNone}, {"text -1 0 1111 50", impl.ErrNone}, {"text 0 0 1111 50", impl.ErrNone}, {"text 0 1 1111 50; box -1 0 1111 50 1", impl.ErrNone},
		// Of a text: as many numbers as its quota, and one more.
		{"box -1 0 1111 50 2; text 0 1 1111 3 1 2 3", impl.OK}, {"box -1 0 1111 50 2; text 0 1 1111 3 1 2 3 4", impl.ErrRange}, {"box -1 0 1111 50 2; text 0 1 1111 0", impl.OK}, {"box -1 0 1111 50 2; text 0 1 1111 0 0", impl.ErrRange},
		{"box -1 0 1111 50 2; text 0 1 1111 3 0 65535", impl.OK}, {"box -1 0 1111 50 2; text 0 1 1111 3 0 65536", impl.ErrRange}, {"box -1 0 1111 50 2; text 0 1 1111 3 -1 65535", impl.ErrRange},
		{"box -1 0 1111 50 2; text 0 1 1111 -1", impl.ErrRange}, {"box -1 0 1111 50 2; text 0 1 1111 201", impl.ErrRange}, {"box -1 0 1111 200 2; text 0 1 1111 200", impl.OK},
		// In what it is: no box, itself, one behind it, a text, a box ahead.
		{"box -1 0 1111 50 2; box -1 1 1111 9 2", impl.ErrNone}, {"box -1 0 1111 50 2; box -1 0 1111 9 2", impl.ErrNone}, {"box -1 0 1111 50 2; box 1 1 1111 9 2", impl.ErrNone}, {"box -1 0 1111 50 3; box 2 1 1111 9 2; box 0 2 1111 9 2", impl.ErrNone},
		{"box -1 0 1111 50 3; text 0 2 1111 9; text 1 1 1111 2", impl.ErrNone}, {"box -1 0 1111 50 3; text 0 2 1111 9; box 1 1 1111 2 1", impl.ErrNone}, {"box -1 0 1111 50 3; box 0 2 1111 9 2; text 1 1 1111 2", impl.OK},
		{"box -1 0 1111 50 3; box 0 2 1111 9 2; text 0 1 1111 2", impl.OK}, {"box -1 0 1111 50 3; box 3 2 1111 9 2; text 0 1 1111 2", impl.ErrNone},
		// Its name there.
		{"box -1 0 1111 50 5; text 0 0 1111 9", impl.ErrState}, {"box -1 0 1111 50 5; text 0 1 1111 9", impl.OK}, {"box -1 0 1111 50 5; text 0 4 1111 9", impl.OK}, {"box -1 0 1111 50 5; text 0 5 1111 9", impl.ErrState}, {"box -1 0 1111 50 5; text 0 -1 1111 9", impl.ErrState},
		{"box -1 0 1111 50 1; text 0 1 1111 9", impl.ErrState}, {"box -1 0 1111 50 100; text 0 99 1111 9", impl.OK}, {"box -1 0 1111 50 100; text 0 100 1111 9", impl.ErrState},
		{"box -1 0 1111 50 5; text 0 3 1111 9; text 0 3 1111 9", impl.ErrState}, {"box -1 0 1111 50 5; text 0 3 1111 9; text 0 1 1111 9; box 0 3 1111 9 1", impl.ErrState}, {"box -1 0 1111 50 5; box 0 3 1111 9 4; text 1 3 1111 9", impl.OK},
		{"box -1 0 1111 50 5; box 0 3 1111 9 3; text 1 3 1111 9", impl.ErrState}, {"box -1 0 1111 50 3; box 0 1 1111 9 2; box 0 2 1111 9 2; text 1 1 1111 4; text 2 1 1111 4", impl.OK}, {"box -1 0 1111 50 3; box 0 1 1111 9 2; box 0 2 1111 9 2; text 1 1 1111 4; text 2 1 1111 4; text 1 1 1111 1", impl.ErrState},
		// What is free of a box: a quota counts whether it is used or not, and only in the box that it is in.
		{"box -1 0 1111 50 5; text 0 1 1111 50", impl.OK}, {"box -1 0 1111 50 5; text 0 1 1111 51", impl.ErrFull}, {"box -1 0 1111 50 5; box 0 1 1111 51 1", impl.ErrFull}, {"box -1 0 1111 50 5; text 0 1 1111 25 1; text 0 2 1111 25 2", impl.OK}, {"box -1 0 1111 50 5; text 0 1 1111 25 1; text 0 2 1111 26", impl.ErrFull},
		{"box -1 0 1111 50 5; box 0 1 1111 50 5; text 1 1 1111 50", impl.OK}, {"box -1 0 1111 50 5; box 0 1 1111 50 5; text 1 1 1111 30; text 1 2 1111 21", impl.ErrFull}, {"box -1 0 1111 0 5; text 0 1 1111 0; box 0 2 1111 0 1", impl.OK}, {"box -1 0 1111 0 5; text 0 1 1111 1", impl.ErrFull},
		{"box -1 0 1111 200 5; text 0 1 1111 200; text 0 2 1111 200", impl.ErrFull}, {"box -1 0 1111 50 5; box 0 1 1111 20 2; box 1 1 1111 19 2; text 2 1 1111 19; text 0 3 1111 30", impl.OK},
	} {
		wantKernelFault(t, row.text, kernel(t, row.text), row.code)
	}
}

// Of each label: that of a thing is right, each other one is told by its fault, or as no thing's.
func TestKernelFaultOfEachLabel(t *testing.T) {
	eachLabel(func(l impl.Label) {
		want := int64(impl.OK)
		if slices.Contains(l.Levels, 0) || slices.Contains(l.Levels, 5) {
			want = impl.ErrForm
		}
		for place := range 3 {
			k := kernel(t, "box -1 0 1111 50 3; box 0 2 1111 9 2; text 1 1 1111 2")
			k.Objects[place].Label = l
			wantKernelFault(t, fmt.Sprint(l.Levels, " at ", place), k, want)
		}
	})
}

// Which names are right for one more in a box: all that were used once and are free now, and none that is there or was never used.
func TestKernelNamesThatAreFree(t *testing.T) {
	for _, row := range []struct {
		text  string
		taken []int64
		next  int64
	}{
		{"box -1 0 1111 50 1", nil, 1}, {"box -1 0 1111 50 2", nil, 2}, {"box -1 0 1111 50 2; text 0 1 1111 1", []int64{1}, 2}, {"box -1 0 1111 50 9; text 0 8 1111 1; text 0 3 1111 0", []int64{8, 3}, 9},
		{"box -1 0 1111 50 9; text 0 4 1111 1; box 0 2 1111 9 100", []int64{4, 2}, 9}, {"box -1 0 1111 50 100; text 0 99 1111 1; text 0 50 1111 1", []int64{99, 50}, 100}, {"box -1 0 1111 50 100", nil, 100},
	} {
		for name := int64(-2); name <= 102; name++ {
			for _, kind := range []string{"text 0 %d 1111 3", "box 0 %d 1111 3 5"} {
				k := kernel(t, row.text+"; "+fmt.Sprintf(kind, name))
				if name < 1 || name >= row.next || slices.Contains(row.taken, name) {
					wantKernelFault(t, row.text, k, impl.ErrState)
					continue
				}
				last := int64(len(k.Objects) - 1)
				wantNoInt(t, row.text, impl.FindObject(kernel(t, row.text), []int64{name}), impl.ErrNone)
				wantInt(t, row.text, impl.FindObject(k, []int64{name}), last)
				wantInts(t, row.text, impl.KidsOf(k, 0), append(slices.Clone(row.taken), name)...)
				wantInts(t, row.text, impl.PathOf(k, last), name)
			}
		}
	}
}

// stageTurns are one fault of each kind, in the order in which they are asked.
func stageTurns(place int64) []objectTurn {
	return []objectTurn{
		{"no kind", func(o *impl.Object) { o.Kind = 3 }, impl.ErrForm},
		{"what its kind has not", func(o *impl.Object) { o.Next, o.Data = 101, []int64{65536} }, impl.ErrForm},
		{"too few levels", func(o *impl.Object) { o.Label.Levels = o.Label.Levels[:3] }, impl.ErrMany},
		{"a level out of bounds", func(o *impl.Object) { o.Label.Levels[1] = 6 }, impl.ErrRange},
		{"a star", func(o *impl.Object) { o.Label.Levels[0] = 0 }, impl.ErrForm},
		{"quota", func(o *impl.Object) { o.Quota = 201 }, impl.ErrRange},
		{"next or data", func(o *impl.Object) {
			if o.Kind == 1 {
				o.Next = 101
			} else {
				o.Data = []int64{65536}
			}
		}, impl.ErrRange},
		{"up", func(o *impl.Object) { o.Up = place }, impl.ErrNone},
		{"name", func(o *impl.Object) { o.Name = -1 }, impl.ErrState},
	}
}

// All faults of one object that may stand together, for an object of each kind at each place: the first one is told. What is free is
// told behind all of them.
func TestKernelFaultOrderInOneObject(t *testing.T) {
	base := kernel(t, standardKernel)
	for place := range base.Objects {
		turns := stageTurns(int64(place))
		for chosen := range 1 << (len(turns) + 1) {
			k, want, what := cloneKernel(base), int64(impl.OK), ""
			if chosen>>len(turns) == 1 {
				k.Objects[0].Quota, want = 53, impl.ErrFull
			}
			for n := len(turns) - 1; n >= 0; n-- {
				if chosen>>n&1 == 1 {
					turns[n].turn(&k.Objects[place])
					want, what = turns[n].code, turns[n].name+", "+what
					if place == 0 && turns[n].name == "name" {
						want = impl.ErrNone
					}
				}
			}
			wantKernelFault(t, fmt.Sprintf("object %d: %s", place, what), k, want)
		}
	}
}

// Objects are asked one by one: of two faulty ones the one ahead tells the code, whatever the code of the other is; what is free of
// a box is told behind all of them.
func TestKernelFaultOrderFromObjectToObject(t *testing.T) {
	base := kernel(t, standardKernel)
	all := [][]objectTurn{}
	for place := range base.Objects {
		all = append(all, turnsOf(t, place))
	}
	for ahead := range all {
		for n, f := range all[ahead] {
			for behind := ahead + 1; behind < len(all); behind++ {
				for m := n % 5; m < len(all[behind]); m += 5 {
					k := cloneKernel(base)
					all[behind][m].turn(&k.Objects[behind])
					f.turn(&k.Objects[ahead])
					wantKernelFault(t, f.name+", and "+all[behind][m].name, k, f.code)
				}
			}
			for _, full := range fullTurns() {
				k := turnedKernel(base, full.turn)
				f.turn(&k.Objects[ahead])
				wantKernelFault(t, f.name+", and "+full.name, k, f.code)
			}
		}
	}
}

// How many there are is told ahead of all that is wrong with one.
func TestKernelFaultOfTooManyWithFaults(t *testing.T) {
	base := kernel(t, deepKernel()+"; text 11 1 1111 0")
	for place := range base.Objects {
		for _, f := range stageTurns(int64(place)) {
			k := turnedKernel(base, func(k *impl.Kernel) { f.turn(&k.Objects[place]) })
			wantKernelFault(t, fmt.Sprintf("thirteen, and object %d: %s", place, f.name), k, impl.ErrMany)
		}
	}
}

// All of three objects, the first one right: what the other two may be in, by which name, with which quota.
func TestKernelFaultOfThreeObjects(t *testing.T) {
	objects := []impl.Object{}
	for n := range int64(5 * 4 * 2 * 3) {
		o := impl.Object{Up: n%5 - 1, Name: n / 5 % 4, Kind: 1 + n/20%2, Label: labelOf(1, 2, 3, 4), Quota: []int64{0, 3, 6}[n/40]}
		if o.Kind == 1 {
			o.Next = 3
		}
		objects = append(objects, o)
	}
	codes := map[int64]int{}
	for _, second := range objects {
		for _, third := range objects {
			for _, next := range []int64{2, 3} {
				k := impl.Kernel{Objects: []impl.Object{{Up: -1, Kind: 1, Label: labelOf(1, 1, 1, 1), Quota: 6, Next: next}, second, third}}
				want := plainKernelFault(k)
				codes[want]++
				wantKernelFault(t, "three objects", k, want)
				if want == impl.OK {
					wantFound(t, k)
				}
			}
		}
	}
	for _, code := range []int64{impl.OK, impl.ErrNone, impl.ErrState, impl.ErrFull} {
		if codes[code] < 20 {
			t.Errorf("too few of code %d: %d", code, codes[code])
		}
	}
}

func TestKernelFaultOfAnyOnes(t *testing.T) {
	source, codes := rand.New(rand.NewSource(121)), map[int64]int{}
	for range 40000 {
		k := anyKernel(source, 1+source.Intn(12))
		for range source.Intn(3) {
			spoilKernel(&k, source)
		}
		want := plainKernelFault(k)
		codes[want]++
		wantKernelFault(t, "any kernel", k, want)
		if t.Failed() {
			return
		}
	}
	for _, code := range []int64{impl.OK, impl.ErrForm, impl.ErrMany, impl.ErrRange, impl.ErrNone, impl.ErrFull, impl.ErrState} {
		if codes[code] < 100 {
			t.Errorf("too few kernels of code %d: %d", code, codes[code])
		}
	}
}

func TestNewKernelOfEachThing(t *testing.T) {
	eachThing(func(l impl.Label) {
		for _, quota := range []int64{0, 1, 100, 199, 200} {
			got := impl.NewKernel(l, quota)
			want := impl.Kernel{Objects: []impl.Object{{Up: -1, Name: 0, Kind: 1, Label: l, Quota: quota, Next: 1}}}
			if told(got) != told(impl.KernelResult{Kernel: want}) {
				t.Fatalf("%v with %d: %v; want %v", l.Levels, quota, got, want)
			}
			wantKernelFault(t, "a new one", got.Kernel, impl.OK)
			wantInt(t, "a path of nothing", impl.FindObject(got.Kernel, nil), 0)
			wantInts(t, "its path", impl.PathOf(got.Kernel, 0))
			wantInt(t, "what is free", impl.FreeOf(got.Kernel, 0), quota)
			wantInts(t, "what is in it", impl.KidsOf(got.Kernel, 0))
			wantNoInt(t, "one in it", impl.FindObject(got.Kernel, []int64{1}), impl.ErrNone)
		}
	})
}

func TestNewKernelQuotas(t *testing.T) {
	for quota := int64(-300); quota <= 500; quota++ {
		got := impl.NewKernel(label(t, "1111"), quota)
		if quota < 0 || quota > 200 {
			wantNoKernel(t, fmt.Sprint("a quota of ", quota), got, impl.ErrRange)
		} else if got.Code != impl.OK || got.Kernel.Objects[0].Quota != quota {
			t.Errorf("a quota of %d: %v", quota, got)
		}
	}
}

// The codes of NewKernel, with what is right beside them and with what is wrong as well.
func TestNewKernelCodes(t *testing.T) {
	quotas := append(farNumbers(), -1, 0, 1, 200, 201, 1<<32+200)
	for _, quota := range quotas {
		for _, f := range faultyLabels() {
			wantNoKernel(t, fmt.Sprint(f.name, " with ", quota), impl.NewKernel(f.label, quota), f.code)
		}
		for _, l := range notThings(t) {
			wantNoKernel(t, fmt.Sprint(l.Levels, " with ", quota), impl.NewKernel(l, quota), impl.ErrForm)
		}
		if quota < 0 || quota > 200 {
			wantNoKernel(t, fmt.Sprint("a quota of ", quota), impl.NewKernel(label(t, "0123"), quota), impl.ErrRange)
		}
	}
	eachLabel(func(l impl.Label) {
		if slices.Contains(l.Levels, 0) || slices.Contains(l.Levels, 5) {
			wantNoKernel(t, fmt.Sprint(l.Levels), impl.NewKernel(l, 5), impl.ErrForm)
		}
	})
}

// What is found, told, free and in what, of a kernel that has all there is, by numbers worked out by hand.
func TestObjectsOfAMixedKernel(t *testing.T) {
	k := kernel(t, mixedKernel)
	for place, row := range []struct {
		path string
		free int64
		kids string
	}{
		{"", 0, "7 3 99 1"}, {"7", 0, "5 1"}, {"3", -1, ""}, {"7 5", 0, "99 1 7"}, {"7 1", -1, ""}, {"7 5 99", -1, ""},
		{"7 5 1", 10, ""}, {"99", -1, ""}, {"1", 0, "1 2"}, {"1 1", -1, ""}, {"1 2", -1, ""}, {"7 5 7", -1, ""},
	} {
		path := numbers(t, row.path)
		wantInt(t, row.path, impl.FindObject(k, path), int64(place))
		wantInts(t, row.path, impl.PathOf(k, int64(place)), path...)
		if row.free < 0 {
			wantNoInt(t, row.path, impl.FreeOf(k, int64(place)), impl.ErrForm)
			wantNoInts(t, row.path, impl.KidsOf(k, int64(place)), impl.ErrForm)
			continue
		}
		wantInt(t, row.path, impl.FreeOf(k, int64(place)), row.free)
		wantInts(t, row.path, impl.KidsOf(k, int64(place)), numbers(t, row.kids)...)
	}
	for _, none := range []string{
		"0", "2", "4", "5", "98", "100", "-1", // a name that is none in the first box, though some are in others
		"7 0", "7 2", "7 7", "7 99", "1 5", "1 99", "7 5 2", "7 5 5", "7 5 0", "7 5 1 1", // at the last place
		"2 5 99", "0 7", "-1 7 5", "4 1", "7 4 99", "7 2 1", "7 3 99", "7 5 2 1", // at the first, and in the midst
		"3 1", "3 3", "3 0", "7 1 1", "7 1 5", "99 1", "7 5 99 1", "7 5 7 1", "1 1 1", "1 2 1", "1 2 1 1", // on through a text
		"7 7 5", "5 7", "99 5 7", "7 5 7 5 7 5", "0 0", "-1", "-1 -1",
	} {
		wantNoInt(t, none, impl.FindObject(k, numbers(t, none)), impl.ErrNone)
	}
}

func TestFreeOfRows(t *testing.T) {
	for _, row := range []struct {
		text string
		free []int64
	}{
		{"box -1 0 1111 50 1", []int64{50}}, {"box -1 0 1111 0 1", []int64{0}}, {"box -1 0 1111 200 9", []int64{200}},
		{"box -1 0 1111 50 3; box 0 2 1111 20 2; text 1 1 1111 5 7", []int64{30, 15, -1}},
		// What a text has not used, and what a box has free, is taken from the box that they are in all the same.
		{"box -1 0 1111 50 3; text 0 2 1111 20", []int64{30, -1}}, {"box -1 0 1111 50 3; text 0 2 1111 20 1 2 3", []int64{30, -1}}, {"box -1 0 1111 50 3; box 0 2 1111 50 1", []int64{0, 50}},
		{"box -1 0 1111 60 3; box 0 1 1111 30 3; box 0 2 1111 29 3; text 1 1 1111 15 1; text 2 1 1111 14 2; text 2 2 1111 15 3; text 1 2 1111 14 4", []int64{1, 1, 0, -1, -1, -1, -1}},
	} {
		k := kernel(t, row.text)
		for place, free := range row.free {
			if free < 0 {
				wantNoInt(t, row.text, impl.FreeOf(k, int64(place)), impl.ErrForm)
			} else {
				wantInt(t, row.text, impl.FreeOf(k, int64(place)), free)
			}
		}
	}
}

// Every object of a kernel is found by its path, and what is in a box is told there.
func TestObjectsAreFound(t *testing.T) {
	for _, text := range append(goodKernels(), standardKernel) {
		wantFound(t, kernel(t, text))
	}
	source := rand.New(rand.NewSource(122))
	for range 4000 {
		wantFound(t, anyKernel(source, 1+source.Intn(12)))
		if t.Failed() {
			return
		}
	}
}

// The names of a box are all of its own: each one tells another object, which is in that box.
func TestKidsAreFoundByTheirNames(t *testing.T) {
	source := rand.New(rand.NewSource(123))
	for range 3000 {
		k, found := anyKernel(source, 1+source.Intn(12)), map[int64]bool{}
		for place, o := range k.Objects {
			if o.Kind != 1 {
				continue
			}
			path := impl.PathOf(k, int64(place)).List
			for _, name := range impl.KidsOf(k, int64(place)).List {
				kid := impl.FindObject(k, append(slices.Clone(path), name))
				if kid.Code != impl.OK || k.Objects[kid.Value].Up != int64(place) || k.Objects[kid.Value].Name != name || found[kid.Value] {
					t.Fatalf("%d in box %d of %v: %v", name, place, k, kid)
				}
				found[kid.Value] = true
			}
		}
		if len(found) != len(k.Objects)-1 {
			t.Fatalf("%d are found in %v", len(found), k)
		}
	}
}

// Places that are none are told ahead of what is no box.
func TestPlacesThatAreNone(t *testing.T) {
	for _, text := range append(goodKernels(), standardKernel) {
		k := kernel(t, text)
		many := int64(len(k.Objects))
		for _, none := range append(farNumbers(), -1, many, many+1, 12, 13, 1<<32+many-1) {
			what := fmt.Sprintf("%d in %s", none, text)
			wantNoInts(t, what, impl.PathOf(k, none), impl.ErrRange)
			wantNoInt(t, what, impl.FreeOf(k, none), impl.ErrRange)
			wantNoInts(t, what, impl.KidsOf(k, none), impl.ErrRange)
		}
		for place := range many {
			if k.Objects[place].Kind == 2 {
				wantNoInt(t, text, impl.FreeOf(k, place), impl.ErrForm)
				wantNoInts(t, text, impl.KidsOf(k, place), impl.ErrForm)
			}
			if got := impl.PathOf(k, place); got.Code != impl.OK {
				t.Errorf("%s: the path of %d: %v", text, place, got)
			}
		}
	}
}

// eachPath visits all paths of at most so many of the names.
func eachPath(names []int64, most int, visit func(path []int64)) {
	level := [][]int64{{}}
	for range most + 1 {
		next := [][]int64{}
		for _, path := range level {
			visit(path)
			for _, name := range names {
				next = append(next, append(slices.Clone(path), name))
			}
		}
		level = next
	}
}

func TestFindObjectOfEachPath(t *testing.T) {
	names := []int64{-1, 0, 1, 2, 3, 4, 5, 7, 8, 99, 100}
	for _, text := range append(goodKernels(), standardKernel) {
		k := kernel(t, text)
		places := map[string]int64{}
		for place, path := range plainPaths(k) {
			places[fmt.Sprint(path)] = int64(place)
		}
		eachPath(names, 3, func(path []int64) {
			place, known := places[fmt.Sprint(path)]
			if known {
				wantInt(t, fmt.Sprint(path, " in ", text), impl.FindObject(k, path), place)
			} else {
				wantNoInt(t, fmt.Sprint(path, " in ", text), impl.FindObject(k, path), impl.ErrNone)
			}
		})
	}
}

// Names that leave every bound, at each place of a path; and paths that are longer than any that is there.
func TestFindObjectOfWrongPaths(t *testing.T) {
	k := kernel(t, deepKernel())
	for many := range 12 {
		path := slices.Repeat([]int64{1}, many)
		wantInt(t, fmt.Sprint(path), impl.FindObject(k, path), int64(many))
		for place := range path {
			for _, name := range append(farNumbers(), -1, 0, 2, 99, 100) {
				wrong := slices.Clone(path)
				wrong[place] = name
				wantNoInt(t, fmt.Sprint(wrong), impl.FindObject(k, wrong), impl.ErrNone)
			}
		}
	}
	for _, many := range []int{12, 13, 100, 100000} {
		wantNoInt(t, fmt.Sprint("a path of ", many), impl.FindObject(k, slices.Repeat([]int64{1}, many)), impl.ErrNone)
	}
}

// wantSameKernels asks both ways.
func wantSameKernels(t *testing.T, what string, a, b impl.Kernel, want bool) {
	t.Helper()
	if impl.SameKernels(a, b) != want || impl.SameKernels(b, a) != want {
		t.Errorf("%s: same %v and %v; want %v: %v and %v", what, impl.SameKernels(a, b), impl.SameKernels(b, a), want, a, b)
	}
}

// kernelTurns are all things in which a kernel can differ from the standard one.
func kernelTurns(base impl.Kernel) []kernelTurn {
	list := []kernelTurn{
		{"one more", func(k *impl.Kernel) { k.Objects = append(k.Objects, impl.Object{}) }},
		{"the last one again", func(k *impl.Kernel) { k.Objects = append(k.Objects, k.Objects[len(k.Objects)-1]) }},
		{"one fewer", func(k *impl.Kernel) { k.Objects = k.Objects[:len(k.Objects)-1] }},
		{"without the first one", func(k *impl.Kernel) { k.Objects = k.Objects[1:] }},
		{"one alone", func(k *impl.Kernel) { k.Objects = k.Objects[:1] }},
		{"none", func(k *impl.Kernel) { k.Objects = nil }},
		{"the other way round", func(k *impl.Kernel) { slices.Reverse(k.Objects) }},
	}
	for place := range base.Objects {
		add := func(name string, turn func(o *impl.Object)) {
			list = append(list, kernelTurn{fmt.Sprintf("%s of %d", name, place), func(k *impl.Kernel) { turn(&k.Objects[place]) }})
		}
		for _, by := range []int64{1, -1, 1 << 32, math.MinInt64} {
			add("up", func(o *impl.Object) { o.Up += by })
			add("name", func(o *impl.Object) { o.Name += by })
			add("kind", func(o *impl.Object) { o.Kind += by })
			add("quota", func(o *impl.Object) { o.Quota += by })
			add("next", func(o *impl.Object) { o.Next += by })
			for category := range 4 {
				add("a level", func(o *impl.Object) { o.Label.Levels[category] += by })
			}
			for n := range base.Objects[place].Data {
				add("data", func(o *impl.Object) { o.Data[n] += by })
			}
		}
		add("one level fewer", func(o *impl.Object) { o.Label.Levels = o.Label.Levels[:3] })
		add("one level more", func(o *impl.Object) { o.Label.Levels = append(o.Label.Levels, 0) })
		add("no label", func(o *impl.Object) { o.Label = impl.Label{} })
		add("more data", func(o *impl.Object) { o.Data = append(o.Data, 0) })
		if many := len(base.Objects[place].Data); many > 0 {
			add("less data", func(o *impl.Object) { o.Data = o.Data[:many-1] })
			add("no data", func(o *impl.Object) { o.Data = nil })
			if many > 1 {
				add("data in another order", func(o *impl.Object) { slices.Reverse(o.Data) })
			}
		}
		for other := range place {
			list = append(list, kernelTurn{fmt.Sprintf("%d and %d in another order", other, place), func(k *impl.Kernel) { k.Objects[other], k.Objects[place] = k.Objects[place], k.Objects[other] }})
		}
	}
	return list
}

func TestSameKernelsOfOneThatDiffers(t *testing.T) {
	base := kernel(t, standardKernel)
	wantSameKernels(t, "itself", base, base, true)
	wantSameKernels(t, "a clone", base, cloneKernel(base), true)
	turns := kernelTurns(base)
	for n, turn := range turns {
		other := turnedKernel(base, turn.turn)
		wantSameKernels(t, turn.name, base, other, false)
		wantSameKernels(t, turn.name+", and itself", other, cloneKernel(other), true)
		another := turns[(n+1)%len(turns)]
		wantSameKernels(t, turn.name+", and "+another.name, other, turnedKernel(base, another.turn), false)
	}
}

// No fault is asked for: kernels that have the same one are the same.
func TestSameKernelsOfFaultyOnes(t *testing.T) {
	base := kernel(t, standardKernel)
	for _, f := range faultyKernels(t) {
		wantSameKernels(t, f.name, f.kernel, cloneKernel(f.kernel), true)
		wantSameKernels(t, f.name+", and the standard", f.kernel, base, false)
	}
	wantSameKernels(t, "none and none", impl.Kernel{}, impl.Kernel{Objects: []impl.Object{}}, true)
	wantSameKernels(t, "none, and one that has nothing", impl.Kernel{}, impl.Kernel{Objects: make([]impl.Object, 1)}, false)
}

func TestSameKernelsOfEachPair(t *testing.T) {
	texts := append(goodKernels(), standardKernel)
	for n, a := range texts {
		for m, b := range texts {
			wantSameKernels(t, a+" and "+b, kernel(t, a), kernel(t, b), n == m)
		}
	}
}
