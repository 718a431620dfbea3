package ledger

import (
	"slices"
	"testing"
)

// scribble writes over a list, spare room included.
func scribble(l []int) {
	l = l[:cap(l)]
	for i := range l {
		l[i] = -77
	}
}

// TestCleanIsNewMemory: nothing that is handed in is changed, spare room included, and no answer shares any with it or with another answer.
func TestCleanIsNewMemory(t *testing.T) {
	for _, many := range []int{0, 1, 2, 3, 5, 8, 12} {
		whole := []int{4, 7, 1, 9, 3, 8, 2, 6, 5, 0, -1, -2, -3, -4, -5}
		before := slices.Clone(whole)
		lists := [][]int{whole[:many], whole[many : many+1], nil}
		one, two := Clean(lists[:2]...), Clean(lists[:2]...)
		single := Clean(whole[:many])
		if !slices.Equal(whole, before) || len(lists[0]) != many || len(lists[1]) != 1 || lists[2] != nil {
			t.Errorf("%d: what was handed in is changed: %v %v", many, whole, lists)
		}
		scribble(one)
		if !slices.Equal(whole, before) || !slices.Equal(two, before[:many+1]) || !slices.Equal(single, before[:many]) {
			t.Errorf("%d: %v, %v or %v hangs on an answer", many, whole, two, single)
		}
		scribble(single)
		if !slices.Equal(whole, before) {
			t.Errorf("%d: %v hangs on an answer", many, whole)
		}
		scribble(whole)
		if !slices.Equal(two, before[:many+1]) {
			t.Errorf("%d: %v hangs on what was handed in", many, two)
		}
	}
}

// TestLedgersAreNewMemory: no answer shares memory with another one, with the decisions or with the chain.
func TestLedgersAreNewMemory(t *testing.T) {
	c := forked(t, 0)
	whole := []int{n(6), 0, n(4), n(4), n(5), n(9), n(1), 0}
	before := slices.Clone(whole)
	for many := range 6 {
		want := lookAt(c, before[:many])
		wantFinal, wantAvail := slices.Clone(want.final), slices.Clone(want.avail)
		for _, l := range [][]int{Final(c, whole[:many]), Avail(c, whole[:many])} {
			kept := lookAt(c, whole[:many])
			scribble(l)
			if !slices.Equal(whole, before) || !slices.Equal(kept.final, wantFinal) || !slices.Equal(kept.avail, wantAvail) {
				t.Errorf("%d: %v or %v hangs on an answer", many, whole, kept)
			}
			tells(t, "behind it", c, whole[:many], look{many, wantFinal, wantAvail})
		}
	}
}

// TestDecisionsAreNotKept: they may be written over behind a call.
func TestDecisionsAreNotKept(t *testing.T) {
	c := forked(t, 0)
	decisions := []int{n(6), n(4)}
	was := lookAt(c, decisions)
	decisions[0], decisions[1] = n(1), n(9)
	if !slices.Equal(was.final, []int{7, 2, 1, 3, 5}) || !slices.Equal(was.avail, []int{7, 2, 1, 3, 5, 4, 8}) {
		t.Error("an answer is changed:", was)
	}
	tells(t, "of others", c, decisions, look{1, []int{1, 2}, []int{1, 2, 3, 4, 8}})
}

// TestAnswersStay: blocks that come later change no answer.
func TestAnswersStay(t *testing.T) {
	c := at(0)
	takes(t, c, on(0, 1, 5, 6))
	was := lookAt(c, []int{n(1), n(2)})
	takes(t, c, on(n(1), 2, 7))
	if was.settled != 1 || !slices.Equal(was.final, []int{5, 6}) || !slices.Equal(was.avail, []int{5, 6}) {
		t.Error("an answer is changed:", was)
	}
}
