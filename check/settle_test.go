package check

import (
	"testing"

	"neaptide/api"
)

// TestCatchUp: where more than a third are, it goes.
func TestCatchUp(t *testing.T) {
	c := New(1, alike(4), 5, 9)
	c.Tick(names, 0)
	sent(t, "one", hand(c, names, prepareOf(0, 0, 7, -1), commitOf(0, 0, 8, nameA)))
	is(t, "one", c, free(0, 0, Propose))
	sent(t, "two", hand(c, names, commitOf(2, 0, 2, -1)))
	is(t, "two", c, free(0, 2, Propose))
	sent(t, "a third one, further", hand(c, names, prepareOf(3, 0, 1000, -1)))
	is(t, "a third one, further", c, free(0, 8, Propose))
	sent(t, "back", hand(c, names, prepareOf(2, 0, 3, -1), prepareOf(3, 0, 4, -1)))
	is(t, "back", c, free(0, 8, Propose))
}

// TestCatchUpInEachStep: also in the midst of a view; but not where it rests.
func TestCatchUpInEachStep(t *testing.T) {
	for step := Propose; step <= Commit; step++ {
		c := New(3, alike(4), 1, 1)
		ticked(t, c, names, 0, 1, step)
		hand(c, names, prepareOf(0, 0, 4, -1), prepareOf(1, 0, 4, -1))
		is(t, "in a step", c, free(0, 4, Propose))
	}
	c := New(3, alike(4), 1, 1)
	sent(t, "at rest", hand(c, names, prepareOf(0, 0, 4, -1), prepareOf(1, 0, 4, -1)))
	is(t, "at rest", c, free(0, 0, Rest))
	sent(t, "awake", c.Tick(names, nameA))
	is(t, "awake", c, free(0, 4, Propose))
}

// TestCatchUpByStakes: a third is not enough.
func TestCatchUpByStakes(t *testing.T) {
	c := New(0, []int{1, 2, 3}, 5, 9)
	c.Tick(nil, 0)
	hand(c, nil, prepareOf(1, 0, 3, -1))
	is(t, "a third", c, state{0, 0, Prepare, 0, -1})
	hand(c, nil, prepareOf(2, 0, 2, -1))
	is(t, "more", c, free(0, 2, Propose))
}

// TestCatchUpFirst: where it could vote and go to a later view, it goes.
func TestCatchUpFirst(t *testing.T) {
	c := New(1, alike(4), 5, 9)
	c.Tick(nil, 0)
	hand(c, nil, proposeOf(0, 0, 0, nameB, -1), prepareOf(0, 0, 3, -1))
	sent(t, "it goes", c.Handle(prepareOf(2, 0, 3, -1), names))
	is(t, "it goes", c, free(0, 3, Propose))
}

// TestCatchUpSetsTheTimer: the patience of the view that it goes to begins.
func TestCatchUpSetsTheTimer(t *testing.T) {
	c := New(3, alike(4), 2, 100)
	c.Tick(nil, 0)
	c.Tick(nil, 0)
	hand(c, nil, prepareOf(0, 0, 4, -1), commitOf(1, 0, 4, -1))
	for i := range 31 {
		sent(t, "it waits", c.Tick(nil, 0))
		if c.Step() != Propose {
			t.Fatal("over behind", i+1)
		}
	}
	sent(t, "over", c.Tick(nil, 0), prepareOf(3, 0, 4, -1))
}

// TestCatchUpProposes: if it is its turn there, it proposes the tip of the last tick, 0 ahead of the first one.
func TestCatchUpProposes(t *testing.T) {
	c := New(2, alike(4), 5, 9)
	c.Tick(names, nameB)
	c.Tick(names, nameA)
	hand(c, names, prepareOf(0, 0, 6, -1))
	acts := hand(c, names, prepareOf(1, 0, 6, -1))
	sent(t, "its turn", acts, proposeOf(2, 0, 6, nameA, -1), prepareOf(2, 0, 6, nameA))
	is(t, "its turn", c, free(0, 6, Prepare))

	c = New(2, alike(4), 5, 9)
	c.Restore([]api.Rec{{Kind: 4, View: 1, Value: -1}})
	hand(c, names, prepareOf(0, 0, 6, -1))
	acts = hand(c, names, prepareOf(1, 0, 6, -1))
	sent(t, "ahead of a tick", acts, proposeOf(2, 0, 6, 0, -1), prepareOf(2, 0, 6, 0))

	c = New(2, alike(4), 5, 9)
	hand(c, names, prepareOf(0, 0, 6, -1), prepareOf(1, 0, 6, -1))
	sent(t, "by a tick", c.Tick(names, nameC), proposeOf(2, 0, 6, nameC, -1), prepareOf(2, 0, 6, nameC))
}

// TestCatchUpProposesUnknown: the tip of the last tick may not be known any more; then it proposes it, and waits.
func TestCatchUpProposesUnknown(t *testing.T) {
	c := New(2, alike(4), 5, 9)
	c.Tick(names, nameB)
	hand(c, nil, prepareOf(0, 0, 6, -1))
	sent(t, "unknown", hand(c, nil, prepareOf(1, 0, 6, -1)), proposeOf(2, 0, 6, nameB, -1))
	is(t, "unknown", c, free(0, 6, Propose))
	sent(t, "known", hand(c, []int{nameB}, prepareOf(1, 0, 6, -1)), prepareOf(2, 0, 6, nameB))
}

// TestPrepareProposed: without a lock it votes for what is proposed, if it is known.
func TestPrepareProposed(t *testing.T) {
	for _, value := range []int{0, nameA, nameB, nameC} {
		c := New(1, alike(4), 5, 9)
		c.Tick(names, 0)
		sent(t, "proposed", c.Handle(proposeOf(0, 0, 0, value, -1), names), prepareOf(1, 0, 0, value))
		is(t, "proposed", c, free(0, 0, Prepare))
		sent(t, "again", c.Handle(proposeOf(0, 0, 0, value, -1), names))
		sent(t, "another", c.Handle(proposeOf(0, 0, 0, nameB, -1), names))
		is(t, "another", c, free(0, 0, Prepare))
	}
}

func TestPrepareUnknown(t *testing.T) {
	c := New(1, alike(4), 5, 9)
	c.Tick(nil, 0)
	sent(t, "unknown", c.Handle(proposeOf(0, 0, 0, nameB, -1), []int{nameA, nameC}))
	is(t, "unknown", c, free(0, 0, Propose))
	sent(t, "still unknown", c.Handle(prepareOf(0, 0, 0, -1), nil))
	sent(t, "still unknown", c.Tick(nil, 0))
	is(t, "still unknown", c, free(0, 0, Propose))
	sent(t, "known", c.Tick([]int{nameB}, 0), prepareOf(1, 0, 0, nameB))
	is(t, "known", c, free(0, 0, Prepare))
}

// TestPrepareUnknownZero: 0 is known always.
func TestPrepareUnknownZero(t *testing.T) {
	c := New(1, alike(4), 5, 9)
	c.Tick(nil, 0)
	sent(t, "0", c.Handle(proposeOf(0, 0, 0, 0, -1), nil), prepareOf(1, 0, 0, 0))
}

// TestPrepareLater: what is proposed for a view that it isn't in yet waits for it.
func TestPrepareLater(t *testing.T) {
	c := New(3, alike(4), 1, 1)
	sent(t, "at rest", hand(c, names, proposeOf(0, 0, 0, nameA, -1), proposeOf(1, 0, 1, nameB, -1)))
	is(t, "at rest", c, free(0, 0, Rest))
	sent(t, "view 0", c.Tick(names, 0), prepareOf(3, 0, 0, nameA))
	sent(t, "give up", c.Tick(names, 0), commitOf(3, 0, 0, -1), prepareOf(3, 0, 0, nameA))
	sent(t, "view 1", c.Tick(names, 0), prepareOf(3, 0, 1, nameB))
	is(t, "view 1", c, free(0, 1, Prepare))
}

// TestPrepareSetsTheTimer: with the vote the patience begins anew.
func TestPrepareSetsTheTimer(t *testing.T) {
	c := New(3, alike(4), 3, 9)
	c.Tick(names, 0)
	c.Tick(names, 0)
	c.Tick(names, 0)
	c.Handle(proposeOf(0, 0, 0, nameA, -1), names)
	sent(t, "one", c.Tick(names, 0), prepareOf(3, 0, 0, nameA))
	sent(t, "two", c.Tick(names, 0), prepareOf(3, 0, 0, nameA))
	sent(t, "three", c.Tick(names, 0), commitOf(3, 0, 0, -1), prepareOf(3, 0, 0, nameA))
}

// TestPrepareLocked: which proposals it may vote for, by its lock and by what they say of themselves. It is in view 4, whose leader is 0.
func TestPrepareLocked(t *testing.T) {
	for _, c := range []struct {
		name            string
		lock, in        int // in -1: none
		value, prepared int
		shown           int // which value most prepared where the proposal says so; -2: none
		want            int // -2: it waits
	}{
		{"no lock, new", 0, -1, nameA, -1, -2, nameA},
		{"no lock, new: 0", 0, -1, 0, -1, -2, 0},
		{"lock, its value new", nameA, 1, nameA, -1, -2, nameA},
		{"lock, another one new", nameA, 1, nameB, -1, -2, -1},
		{"lock of the first view, another one new", nameA, 0, nameB, -1, -2, -1},
		{"lock, 0 new", nameA, 1, 0, -1, -2, -1},
		{"lock of 0, 0 new", 0, 1, 0, -1, -2, 0},
		{"lock of 0, another one new", 0, 1, nameA, -1, -2, -1},
		{"no lock, shown", 0, -1, nameA, 2, nameA, nameA},
		{"no lock, shown in the first view", 0, -1, nameA, 0, nameA, nameA},
		{"no lock, shown: 0", 0, -1, 0, 2, 0, 0},
		{"no lock, not shown", 0, -1, nameA, 2, -2, -2},
		{"no lock, not shown: 0", 0, -1, 0, 2, -2, -2},
		{"no lock, another one shown", 0, -1, nameA, 2, nameB, -2},
		{"no lock, nothing shown", 0, -1, nameA, 2, -1, -2},
		{"lock, its value shown later", nameA, 1, nameA, 2, nameA, nameA},
		{"lock, its value shown there", nameA, 1, nameA, 1, nameA, nameA},
		{"lock, its value shown earlier", nameA, 2, nameA, 1, nameA, nameA},
		{"lock, its value not shown", nameA, 1, nameA, 2, -2, -2},
		{"lock, another one shown later", nameA, 1, nameB, 2, nameB, nameB},
		{"lock, another one shown there", nameA, 2, nameB, 2, nameB, nameB},
		{"lock, another one shown earlier", nameA, 2, nameB, 1, nameB, -1},
		{"lock, another one shown in the first view", nameA, 3, nameB, 0, nameB, -1},
		{"lock, 0 shown later", nameA, 0, 0, 1, 0, 0},
		{"lock, 0 shown earlier", nameA, 1, 0, 0, 0, -1},
		{"lock of 0, 0 shown earlier", 0, 3, 0, 2, 0, 0},
		{"lock of 0, another one shown earlier", 0, 3, nameB, 2, nameB, -1},
		{"lock, another one not shown", nameA, 1, nameB, 2, -2, -2},
		{"lock, another one shown elsewhere", nameA, 1, nameB, 2, nameA, -2},
	} {
		x := New(1, alike(4), 1, 1)
		l := []api.Rec{{Kind: 5, View: 3, Value: -1}}
		if c.in == 3 {
			l = nil
		}
		if c.in >= 0 {
			l = append(l, api.Rec{Kind: 5, View: c.in, Value: c.lock})
		}
		x.Restore(l)
		ticked(t, x, names, 0, 4, Propose)
		if c.shown != -2 {
			hand(x, names, prepareOf(0, 0, c.prepared, c.shown), prepareOf(2, 0, c.prepared, c.shown), prepareOf(3, 0, c.prepared, c.shown))
		}
		want := state{0, 4, Prepare, c.lock, c.in}
		acts := x.Handle(proposeOf(0, 0, 4, c.value, c.prepared), names)
		if c.want == -2 {
			want.step = Propose
			sent(t, c.name, acts)
		} else {
			sent(t, c.name, acts, prepareOf(1, 0, 4, c.want))
		}
		is(t, c.name, x, want)
	}
}

// TestPrepareShownLate: it votes as soon as it is shown, by votes that come later.
func TestPrepareShownLate(t *testing.T) {
	c := New(1, alike(4), 1, 1)
	ticked(t, c, names, 0, 4, Propose)
	sent(t, "two", hand(c, names, proposeOf(0, 0, 4, nameB, 2), prepareOf(0, 0, 2, nameB), prepareOf(2, 0, 2, nameB)))
	is(t, "two", c, free(0, 4, Propose))
	sent(t, "three, unknown", hand(c, nil, prepareOf(3, 0, 2, nameB)))
	is(t, "three, unknown", c, free(0, 4, Propose))
	sent(t, "known", hand(c, []int{nameB}, prepareOf(3, 0, 2, nameB)), prepareOf(1, 0, 4, nameB))
	is(t, "known", c, free(0, 4, Prepare))
}

// TestCommitPrepared: what most prepared it commits, and is bound to.
func TestCommitPrepared(t *testing.T) {
	for _, value := range []int{0, nameA, nameC} {
		c := New(1, alike(4), 5, 9)
		c.Tick(names, 0)
		hand(c, names, proposeOf(0, 0, 0, value, -1))
		sent(t, "two", hand(c, names, prepareOf(0, 0, 0, value)))
		is(t, "two", c, free(0, 0, Prepare))
		sent(t, "three", hand(c, names, prepareOf(3, 0, 0, value)), commitOf(1, 0, 0, value))
		is(t, "three", c, state{0, 0, Commit, value, 0})
		sent(t, "four", hand(c, names, prepareOf(2, 0, 0, value)))
		is(t, "four", c, state{0, 0, Commit, value, 0})
	}
}

// TestCommitNothing: that most prepare nothing binds to nothing.
func TestCommitNothing(t *testing.T) {
	c := New(1, alike(4), 1, 1)
	ticked(t, c, nil, 0, 0, Prepare)
	sent(t, "two", hand(c, nil, prepareOf(0, 0, 0, -1)))
	sent(t, "three", hand(c, nil, prepareOf(3, 0, 0, -1)), commitOf(1, 0, 0, -1))
	is(t, "three", c, free(0, 0, Commit))
}

// TestCommitNothingKeepsTheLock: what it is bound to already it stays bound to.
func TestCommitNothingKeepsTheLock(t *testing.T) {
	c := New(1, alike(4), 1, 1)
	c.Restore([]api.Rec{{Kind: 5, View: 2, Value: nameA}})
	ticked(t, c, nil, 0, 3, Prepare)
	sent(t, "nothing", hand(c, nil, prepareOf(0, 0, 3, -1), prepareOf(3, 0, 3, -1)), commitOf(1, 0, 3, -1))
	is(t, "nothing", c, state{0, 3, Commit, nameA, 2})
}

// TestCommitOther: it is bound anew by what most prepare, though it didn't vote for it.
func TestCommitOther(t *testing.T) {
	c := New(1, alike(4), 1, 1)
	c.Restore([]api.Rec{{Kind: 5, View: 2, Value: nameA}})
	ticked(t, c, nil, 0, 3, Prepare)
	acts := hand(c, names, prepareOf(0, 0, 3, nameB), prepareOf(3, 0, 3, nameB), prepareOf(2, 0, 3, nameB))
	sent(t, "another one", acts, commitOf(1, 0, 3, nameB))
	is(t, "another one", c, state{0, 3, Commit, nameB, 3})
}

func TestCommitUnknown(t *testing.T) {
	c := New(1, alike(4), 5, 9)
	c.Tick(names, 0)
	hand(c, names, proposeOf(0, 0, 0, nameA, -1))
	sent(t, "unknown", hand(c, []int{nameA, nameC}, prepareOf(0, 0, 0, nameB), prepareOf(2, 0, 0, nameB), prepareOf(3, 0, 0, nameB)))
	is(t, "unknown", c, free(0, 0, Prepare))
	sent(t, "known", hand(c, names, prepareOf(3, 0, 0, nameB)), commitOf(1, 0, 0, nameB))
	is(t, "known", c, state{0, 0, Commit, nameB, 0})
}

// TestCommitElsewhere: what is prepared in another view than its own counts for nothing here, nor what is while it waits for a proposal.
func TestCommitElsewhere(t *testing.T) {
	c := New(1, alike(4), 1, 1)
	ticked(t, c, names, 0, 2, Propose)
	sent(t, "a proposal is waited for", hand(c, names, prepareOf(0, 0, 2, nameA), prepareOf(3, 0, 2, nameA), prepareOf(2, 0, 2, nameA)))
	is(t, "a proposal is waited for", c, free(0, 2, Propose))
	ticked(t, c, nil, 0, 3, Prepare)
	sent(t, "an earlier view", hand(c, names, prepareOf(0, 0, 1, nameA), prepareOf(3, 0, 1, nameA), prepareOf(2, 0, 1, nameA)))
	is(t, "an earlier view", c, free(0, 3, Prepare))
}

// TestCommitSetsTheTimer: with the vote the patience begins anew.
func TestCommitSetsTheTimer(t *testing.T) {
	c := New(3, alike(4), 3, 9)
	c.Tick(names, 0)
	c.Handle(proposeOf(0, 0, 0, nameA, -1), names)
	c.Tick(names, 0)
	c.Tick(names, 0)
	hand(c, names, prepareOf(0, 0, 0, nameA), prepareOf(1, 0, 0, nameA))
	is(t, "prepared", c, state{0, 0, Commit, nameA, 0})
	for range 2 {
		sent(t, "it waits", c.Tick(names, 0), prepareOf(3, 0, 0, nameA), commitOf(3, 0, 0, nameA))
	}
	sent(t, "over", c.Tick(names, 0))
	is(t, "over", c, state{0, 1, Propose, nameA, 0})
}

// TestValidLate: what is prepared behind its vote for nothing is what it proposes next, though it isn't bound to it.
func TestValidLate(t *testing.T) {
	c := New(1, alike(4), 1, 1)
	ticked(t, c, nil, 0, 0, Commit)
	sent(t, "late", hand(c, names, prepareOf(0, 0, 0, nameB), prepareOf(2, 0, 0, nameB), prepareOf(3, 0, 0, nameB)))
	is(t, "late", c, free(0, 0, Commit))
	sent(t, "its turn", c.Tick(names, nameA), proposeOf(1, 0, 1, nameB, 0), prepareOf(1, 0, 1, nameB))
}

// TestValidNot: nothing is to be proposed again, if it is nothing that most prepared, or isn't known, or most didn't.
func TestValidNot(t *testing.T) {
	for name, x := range map[string]struct {
		known []int
		votes []api.Msg
	}{
		"nothing":      {names, []api.Msg{prepareOf(0, 0, 0, -1), prepareOf(2, 0, 0, -1), prepareOf(3, 0, 0, -1)}},
		"unknown":      {[]int{nameA, nameC}, []api.Msg{prepareOf(0, 0, 0, nameB), prepareOf(2, 0, 0, nameB), prepareOf(3, 0, 0, nameB)}},
		"two of four":  {names, []api.Msg{prepareOf(0, 0, 0, nameB), prepareOf(2, 0, 0, nameB)}},
		"commits":      {names, []api.Msg{commitOf(0, 0, 0, nameB), commitOf(2, 0, 0, nameB)}},
		"another view": {names, []api.Msg{prepareOf(0, 0, 1, nameB), prepareOf(2, 0, 0, nameB), prepareOf(3, 0, 0, nameB)}},
	} {
		c := New(1, alike(4), 1, 1)
		ticked(t, c, nil, 0, 0, Commit)
		hand(c, x.known, x.votes...)
		is(t, name, c, free(0, 0, Commit))
		sent(t, name, c.Tick(x.known, nameA), proposeOf(1, 0, 1, nameA, -1), prepareOf(1, 0, 1, nameA))
	}
}

// TestValidBehindACommitOnly: as long as it didn't commit, what most prepare isn't what it proposes in a later view.
func TestValidBehindACommitOnly(t *testing.T) {
	c := New(2, alike(4), 5, 9)
	c.Tick(names, nameC)
	sent(t, "without a proposal", hand(c, names, prepareOf(0, 0, 0, nameA), prepareOf(1, 0, 0, nameA), prepareOf(3, 0, 0, nameA)))
	is(t, "without a proposal", c, free(0, 0, Propose))
	sent(t, "its turn", hand(c, names, prepareOf(0, 0, 6, -1), prepareOf(1, 0, 6, -1)), proposeOf(2, 0, 6, nameC, -1), prepareOf(2, 0, 6, nameC))
}

// TestValidRisesOnly: of what was prepared that of the greatest view is proposed, with the lock of an earlier one.
func TestValidRisesOnly(t *testing.T) {
	c := New(3, alike(4), 1, 1)
	c.Restore([]api.Rec{{Kind: 5, View: 1, Value: nameA}, {Kind: 4, View: 2, Value: -1}, {Kind: 5, View: 2, Value: -1}})
	is(t, "restored", c, state{0, 2, Commit, nameA, 1})
	sent(t, "late", hand(c, names, prepareOf(0, 0, 2, nameB), prepareOf(1, 0, 2, nameB)))
	sent(t, "late", hand(c, names, prepareOf(2, 0, 2, nameB)))
	sent(t, "and an earlier one", hand(c, names, prepareOf(0, 0, 0, nameC), prepareOf(1, 0, 0, nameC), prepareOf(2, 0, 0, nameC)))
	is(t, "late", c, state{0, 2, Commit, nameA, 1})
	sent(t, "its turn", c.Tick(names, nameA), proposeOf(3, 0, 3, nameB, 2), prepareOf(3, 0, 3, nameB))
	is(t, "its turn", c, state{0, 3, Prepare, nameA, 1})
}

// TestValidIsTheLock: without anything later it is what it is bound to.
func TestValidIsTheLock(t *testing.T) {
	c := New(1, alike(4), 1, 1)
	c.Tick(names, 0)
	hand(c, names, proposeOf(0, 0, 0, nameA, -1), prepareOf(0, 0, 0, nameA), prepareOf(2, 0, 0, nameA))
	is(t, "bound", c, state{0, 0, Commit, nameA, 0})
	sent(t, "its turn", c.Tick(names, nameB), proposeOf(1, 0, 1, nameA, 0), prepareOf(1, 0, 1, nameA))
	is(t, "its turn", c, state{0, 1, Prepare, nameA, 0})
}
