package tests

import (
	"fmt"
	"slices"
	"strings"
	"testing"
)

// called is all that comes in to the calls of a layer: what they answer, the same with memory behind its lists, and how all of that
// memory is turned.
type called[C any] interface {
	answers() []any
	roomy() C
	scrub()
}

// wantArgumentsStay asks that nothing that comes in is changed, be what lies behind the ends of its lists as it may.
func wantArgumentsStay[C called[C]](t *testing.T, list []C) {
	t.Helper()
	for _, given := range list {
		c := given.roomy()
		was := wholeTold(c)
		c.answers()
		if now := wholeTold(c); now != was {
			t.Fatalf("%s became %s", was, now)
		}
	}
}

// wantNoCapacityAsked asks that what lies behind the end of a list is no part of it: the answers are those of a list that ends there.
func wantNoCapacityAsked[C called[C]](t *testing.T, list []C) {
	t.Helper()
	for _, given := range list {
		if a, b := told(given.roomy().answers()), told(given.answers()); a != b {
			t.Errorf("%v: with memory behind it %s, else %s", given, a, b)
		}
	}
}

// wantNewMemory asks that an answer shares no memory with what came in, with another answer, or with itself.
func wantNewMemory[C called[C]](t *testing.T, list []C) {
	t.Helper()
	for _, given := range list {
		c := given.roomy()
		first, second := c.answers(), c.answers()
		for n, answer := range first {
			others := append(slices.Delete(slices.Clone(first), n, n+1), c, second[n])
			wantApart(t, fmt.Sprintf("answer %d of %v", n, c), answer, others...)
		}
	}
}

// wantAnswersStay asks that an answer stays as it is when what came in is turned afterwards, and the other way round.
func wantAnswersStay[C called[C]](t *testing.T, list []C, scrubAnswer func(answer any)) {
	t.Helper()
	for _, given := range list {
		c := given.roomy()
		was := wholeTold(c)
		for _, answer := range c.answers() {
			scrubAnswer(answer)
		}
		if wholeTold(c) != was {
			t.Fatalf("by what was done with the answers %s became %s", was, wholeTold(c))
		}
		answers := c.answers()
		answersWere := told(answers)
		c.scrub()
		if told(answers) != answersWere {
			t.Fatalf("by what was done with what came in the answers, %s, became %v", answersWere, answers)
		}
	}
}

// wantArgumentsAlone asks that some calls have the same answers behind others.
func wantArgumentsAlone[C called[C]](t *testing.T, some, others []C) {
	t.Helper()
	answers := func() string {
		all := []string{}
		for _, c := range some {
			all = append(all, told(c.answers()))
		}
		return strings.Join(all, " ")
	}
	was := answers()
	for _, other := range others {
		other.answers()
		if got := answers(); got != was {
			t.Fatalf("behind calls with %v the answers are %s, and were %s", other, got, was)
		}
	}
}
