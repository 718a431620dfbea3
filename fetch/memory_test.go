package fetch

import (
	"slices"
	"testing"

	"neaptide/api"
)

// TestAnswersAreNew: no answer has memory in common with another one, or with what is kept.
func TestAnswersAreNew(t *testing.T) {
	for _, many := range []int{1, 2, 5, 8, 9, 16, 32} {
		f := wanting(t, 0, 3, run(1, many)...)
		one, two := f.Wanted(), f.Wanted()
		one = one[:cap(one)]
		for i := range one {
			one[i] = 77
		}
		if !slices.Equal(two, run(1, many)) {
			t.Errorf("%d: an answer hangs on another one: %v", many, two)
		}
		is(t, f, run(1, many)...)
		first := f.Tick()
		second := f.Tick()
		first = first[:cap(first)]
		for i := range first {
			first[i] = api.Act{To: 77, Msg: api.Msg{Value: 77}}
		}
		if !sameActs(second, asksOf(0, 2, run(1, min(many, 8)))) {
			t.Errorf("%d: an answer hangs on another one: %v", many, second)
		}
		is(t, f, run(1, many)...)
		asks(t, f, asksOf(0, 1, run(1, min(many, 8)))...)
	}
}

// TestSpareRoom: what is written behind an answer isn't there for what comes later.
func TestSpareRoom(t *testing.T) {
	for many := range 32 {
		f := wanting(t, 0, 3, run(1, many)...)
		_ = append(f.Wanted(), 77)
		_ = append(f.Tick(), api.Act{To: 77})
		wants(t, f, nameOf(40))
		is(t, f, append(run(1, many), nameOf(40))...)
	}
}

// TestAnswersStay: what is wanted later, or comes, changes no answer.
func TestAnswersStay(t *testing.T) {
	f := wanting(t, 0, 3, run(1, 9)...)
	names, acts := f.Wanted(), f.Tick()
	f.Got(nameOf(1))
	f.Got(nameOf(5))
	wants(t, f, run(20, 25)...)
	f.Tick()
	if !slices.Equal(names, run(1, 9)) || !sameActs(acts, asksOf(0, 1, run(1, 8))) {
		t.Error("an answer is changed:", names, acts)
	}
}
