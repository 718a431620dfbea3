package check

import (
	"slices"
	"testing"

	"neaptide/api"
)

// TestDecideCommitted: more than two thirds commit a value, whatever is known of it, in whatever step and view.
func TestDecideCommitted(t *testing.T) {
	for _, value := range []int{0, nameA, nameC} {
		for _, view := range []int{0, 1, 7, 1000} {
			c := New(1, alike(4), 3, 9)
			sent(t, "two commit", hand(c, nil, commitOf(0, 0, view, value), commitOf(2, 0, view, value)))
			is(t, "two commit", c, free(0, 0, Rest))
			sent(t, "three commit", hand(c, nil, commitOf(3, 0, view, value)), decidedOf(1, 0, value))
			is(t, "three commit", c, free(1, 0, Rest))
			if got := c.Decisions(); !slices.Equal(got, []int{value}) {
				t.Error("decided is", got)
			}
		}
	}
}

func TestDecideInEachStep(t *testing.T) {
	for step := Propose; step <= Commit; step++ {
		c := New(2, alike(4), 1, 1)
		ticked(t, c, names, 0, 0, step)
		acts := hand(c, nil, commitOf(0, 0, 0, nameA), commitOf(1, 0, 0, nameA), commitOf(3, 0, 0, nameA))
		sent(t, "committed", acts, decidedOf(2, 0, nameA))
		is(t, "committed", c, free(1, 0, Rest))
	}
}

// TestDecideNothing: what most commit to is no value, or not in one view, or not one value.
func TestDecideNothing(t *testing.T) {
	for name, votes := range map[string][]api.Msg{
		"none":            {commitOf(0, 0, 0, -1), commitOf(2, 0, 0, -1), commitOf(3, 0, 0, -1)},
		"in two views":    {commitOf(0, 0, 0, nameA), commitOf(2, 0, 0, nameA), commitOf(3, 0, 1, nameA)},
		"two values":      {commitOf(0, 0, 0, nameA), commitOf(2, 0, 0, nameA), commitOf(3, 0, 0, nameB)},
		"one twice":       {commitOf(0, 0, 0, nameA), commitOf(2, 0, 0, nameA), commitOf(2, 0, 0, nameA)},
		"prepared alone":  {prepareOf(0, 0, 0, nameA), prepareOf(2, 0, 0, nameA), prepareOf(3, 0, 0, nameA)},
		"a mind changed":  {commitOf(0, 0, 0, nameA), commitOf(2, 0, 0, nameA), commitOf(3, 0, 0, nameB), commitOf(3, 0, 0, nameA)},
		"no such node":    {commitOf(0, 0, 0, nameA), commitOf(2, 0, 0, nameA), commitOf(4, 0, 0, nameA), commitOf(6, 0, 0, nameA)},
		"another's index": {commitOf(0, 0, 0, nameA), commitOf(2, 0, 0, nameA), commitOf(3, 1, 0, nameA)},
	} {
		c := New(1, alike(4), 3, 9)
		sent(t, name, hand(c, nil, votes...))
		is(t, name, c, free(0, 0, Rest))
	}
}

// TestDecideByStakes: exact thirds aren't enough.
func TestDecideByStakes(t *testing.T) {
	for _, c := range []struct {
		stakes    []int
		committed []int
		decided   bool
	}{
		{[]int{1, 1, 1}, []int{0, 2}, false},
		{[]int{1, 2, 4}, []int{2, 1}, true},
		{[]int{1, 2, 3}, []int{2, 0}, false},
		{[]int{1, 2, 3}, []int{2, 1}, true},
		{[]int{2, 1, 7}, []int{2}, true},
		{[]int{2, 1, 6}, []int{2}, false},
		{[]int{2, 1, 6}, []int{2, 1}, true},
	} {
		x := New(0, c.stakes, 1, 1)
		for _, node := range c.committed {
			x.Handle(commitOf(node, 0, 0, nameA), nil)
		}
		if got := x.Index() == 1; got != c.decided {
			t.Errorf("of %v commit %v: %t", c.stakes, c.committed, got)
		}
	}
}

// TestDecideSaid: more than a third say it was decided.
func TestDecideSaid(t *testing.T) {
	for _, value := range []int{0, nameA} {
		c := New(1, alike(4), 3, 9)
		sent(t, "one says it", hand(c, nil, decidedOf(0, 0, value)))
		is(t, "one says it", c, free(0, 0, Rest))
		sent(t, "one says it twice", hand(c, nil, decidedOf(0, 0, value)))
		is(t, "one says it twice", c, free(0, 0, Rest))
		sent(t, "two say it", hand(c, nil, decidedOf(3, 0, value)), decidedOf(1, 0, value))
		is(t, "two say it", c, free(1, 0, Rest))
		if got := c.Decisions(); !slices.Equal(got, []int{value}) {
			t.Error("decided is", got)
		}
	}
}

// TestDecideSaidByStakes: a third of all is not enough, one more is.
func TestDecideSaidByStakes(t *testing.T) {
	for _, c := range []struct {
		stakes  []int
		said    []int
		decided bool
	}{
		{[]int{1, 1, 1}, []int{0}, false},
		{[]int{1, 1, 1}, []int{0, 2}, true},
		{[]int{2, 3, 1}, []int{0}, false},
		{[]int{2, 3, 1}, []int{0, 2}, true},
		{[]int{2, 3, 1}, []int{1}, true},
		{[]int{1, 1, 1, 1, 1, 1, 1}, []int{3, 4}, false},
		{[]int{1, 1, 1, 1, 1, 1, 1}, []int{3, 4, 6}, true},
	} {
		x := New(0, c.stakes, 1, 1)
		for _, node := range c.said {
			x.Handle(decidedOf(node, 0, nameA), nil)
		}
		if got := x.Index() == 1; got != c.decided {
			t.Errorf("of %v say it %v: %t", c.stakes, c.said, got)
		}
	}
}

// TestDecideSaidFirst: what one says first holds.
func TestDecideSaidFirst(t *testing.T) {
	c := New(1, alike(4), 3, 9)
	hand(c, nil, decidedOf(0, 0, 0), decidedOf(0, 0, nameB), decidedOf(2, 0, nameB))
	is(t, "one changes its mind", c, free(0, 0, Rest))
	hand(c, nil, decidedOf(3, 0, 0))
	if got := c.Decisions(); !slices.Equal(got, []int{0}) {
		t.Error("decided is", got)
	}
}

// TestDecideForgets: nothing of an index is left in the next one.
func TestDecideForgets(t *testing.T) {
	c := New(3, alike(4), 1, 1)
	ticked(t, c, names, 0, 0, Commit)
	hand(c, names, prepareOf(0, 0, 1, nameB), prepareOf(1, 0, 1, nameB), prepareOf(2, 0, 1, nameB))
	hand(c, names, proposeOf(1, 0, 1, nameB, -1), proposeOf(3, 0, 3, nameC, -1))
	is(t, "with a lock", c, state{0, 1, Commit, nameB, 1})
	hand(c, names, decidedOf(0, 0, nameA), commitOf(0, 0, 1, nameB))
	sent(t, "decided", hand(c, names, decidedOf(1, 0, nameA)), decidedOf(3, 0, nameA))
	is(t, "decided", c, free(1, 0, Rest))
	sent(t, "what was said is gone", hand(c, names, decidedOf(2, 1, nameA)))
	sent(t, "commits are gone", hand(c, names, commitOf(2, 1, 1, nameB)))
	is(t, "nobody is ahead", c, free(1, 0, Rest))
	sent(t, "a tick", c.Tick(names, nameB))
	is(t, "a tick", c, free(1, 0, Propose))
	hand(c, names, prepareOf(0, 1, 0, nameC), prepareOf(2, 1, 0, nameC))
	sent(t, "no lock is left", hand(c, names, proposeOf(1, 1, 0, nameC, -1)), prepareOf(3, 1, 0, nameC), commitOf(3, 1, 0, nameC))
	is(t, "a lock of its own", c, state{1, 0, Commit, nameC, 0})
}

// TestDecideForgetsValid: what could be proposed in an index can't in the next one, and neither is its proposal there.
func TestDecideForgetsValid(t *testing.T) {
	c := New(1, alike(4), 1, 1)
	ticked(t, c, names, nameA, 1, Commit)
	hand(c, names, prepareOf(0, 0, 1, nameB), prepareOf(2, 0, 1, nameB), prepareOf(3, 0, 1, nameB))
	hand(c, names, decidedOf(0, 0, 0), decidedOf(2, 0, 0))
	is(t, "decided", c, free(1, 0, Rest))
	sent(t, "its own tip again", c.Tick(names, nameA), proposeOf(1, 1, 0, nameA, -1), prepareOf(1, 1, 0, nameA))
}

// TestDecideAfterCasting: the decision comes behind the vote that leads to it.
func TestDecideAfterCasting(t *testing.T) {
	c := New(2, alike(4), 3, 9)
	c.Tick(names, 0)
	hand(c, names, commitOf(0, 0, 0, nameA), commitOf(1, 0, 0, nameA), prepareOf(0, 0, 0, nameA), prepareOf(1, 0, 0, nameA))
	acts := hand(c, names, proposeOf(0, 0, 0, nameA, -1))
	sent(t, "all at once", acts, prepareOf(2, 0, 0, nameA), commitOf(2, 0, 0, nameA), decidedOf(2, 0, nameA))
	is(t, "all at once", c, free(1, 0, Rest))
}

// TestDecideFirst: where it could decide and go to a later view, it decides.
func TestDecideFirst(t *testing.T) {
	c := New(0, []int{1, 1, 7}, 5, 9)
	c.Tick(names, nameB)
	sent(t, "one that has most", c.Handle(commitOf(2, 0, 3, nameA), names), decidedOf(0, 0, nameA))
	is(t, "one that has most", c, free(1, 0, Rest))
}

// TestLastIndex: behind index 1000 nothing is decided any more, nor done; who is behind is told.
func TestLastIndex(t *testing.T) {
	c := New(0, alike(1), 1, 1)
	var l []api.Rec
	for i := range 1000 {
		l = append(l, api.Rec{Kind: 6, Index: i, Value: names[i%3]})
	}
	c.Restore(l)
	is(t, "restored", c, free(1000, 0, Rest))
	acts := c.Tick(names, nameC)
	sent(t, "the last one", acts, proposeOf(0, 1000, 0, nameC, -1), prepareOf(0, 1000, 0, nameC), commitOf(0, 1000, 0, nameC), decidedOf(0, 1000, nameC))
	is(t, "the last one", c, free(1001, 0, Rest))
	for range 3 {
		sent(t, "no more", c.Tick(names, nameB))
		is(t, "no more", c, free(1001, 0, Rest))
	}
	for _, m := range []api.Msg{proposeOf(0, 1000, 0, 0, -1), prepareOf(0, 1000, 1000, 0), commitOf(0, 1000, 7, -1)} {
		got := c.Handle(m, names)
		if want := []api.Act{{To: 0, Msg: decidedOf(0, 1000, nameC)}}; !sameActs(got, want) {
			t.Errorf("of the last index: %v, not %v", got, want)
		}
	}
	sent(t, "no more", hand(c, names, decidedOf(0, 1000, 0), decidedOf(0, 1001, 0)))
	is(t, "no more", c, free(1001, 0, Rest))
	if got := c.Decisions(); len(got) != 1001 || got[1000] != nameC || got[999] != nameA {
		t.Error("decided are", len(got))
	}
}

// TestLastIndexOfVotes: the last index is decided as any other one.
func TestLastIndexOfVotes(t *testing.T) {
	c := New(1, alike(4), 1, 1)
	var l []api.Rec
	for i := range 1000 {
		l = append(l, api.Rec{Kind: 6, Index: i})
	}
	c.Restore(l)
	sent(t, "two", hand(c, nil, commitOf(0, 1000, 3, nameA), commitOf(2, 1000, 3, nameA)))
	sent(t, "three", hand(c, nil, commitOf(3, 1000, 3, nameA)), decidedOf(1, 1000, nameA))
	is(t, "three", c, free(1001, 0, Rest))
}
