package check

import (
	"testing"

	"neaptide/api"
)

// TestTickProposes: in each index another one begins, with its tip.
func TestTickProposes(t *testing.T) {
	for me := range 4 {
		for index := range 9 {
			c := New(me, alike(4), 5, 9)
			var l []api.Rec
			for i := range index {
				l = append(l, api.Rec{Kind: 6, Index: i})
			}
			c.Restore(l)
			acts := c.Tick(names, nameB)
			if index%4 == me {
				sent(t, "its turn", acts, proposeOf(me, index, 0, nameB, -1), prepareOf(me, index, 0, nameB))
				is(t, "its turn", c, free(index, 0, Prepare))
			} else {
				sent(t, "not its turn", acts)
				is(t, "not its turn", c, free(index, 0, Propose))
			}
		}
	}
}

// TestTickProposesZero: ahead of all blocks it proposes what is ahead of all blocks.
func TestTickProposesZero(t *testing.T) {
	c := New(0, alike(4), 5, 9)
	sent(t, "its turn", c.Tick(nil, 0), proposeOf(0, 0, 0, 0, -1), prepareOf(0, 0, 0, 0))
}

// TestTickRepeats: what it says in its view it says with each tick again, in this order: its proposal, and its votes.
func TestTickRepeats(t *testing.T) {
	c := New(0, alike(4), 100, 1000)
	sent(t, "first", c.Tick(names, nameA), proposeOf(0, 0, 0, nameA, -1), prepareOf(0, 0, 0, nameA))
	for range 3 {
		sent(t, "again", c.Tick(names, nameB), proposeOf(0, 0, 0, nameA, -1), prepareOf(0, 0, 0, nameA))
	}
	sent(t, "prepared", hand(c, names, prepareOf(1, 0, 0, nameA), prepareOf(2, 0, 0, nameA)), commitOf(0, 0, 0, nameA))
	for range 3 {
		sent(t, "again", c.Tick(names, nameB), proposeOf(0, 0, 0, nameA, -1), prepareOf(0, 0, 0, nameA), commitOf(0, 0, 0, nameA))
	}
}

// TestTickRepeatsLast: what it said comes behind what is new.
func TestTickRepeatsLast(t *testing.T) {
	c := New(0, alike(4), 100, 1000)
	c.Tick(names, nameA)
	sent(t, "unknown", hand(c, nil, prepareOf(1, 0, 0, nameA), prepareOf(2, 0, 0, nameA)))
	sent(t, "known", c.Tick(names, nameA), commitOf(0, 0, 0, nameA), proposeOf(0, 0, 0, nameA, -1), prepareOf(0, 0, 0, nameA))
}

// TestTickRepeatsNoOthers: another's proposal and other views' votes it doesn't say again.
func TestTickRepeatsNoOthers(t *testing.T) {
	c := New(2, alike(4), 1, 1)
	c.Tick(names, 0)
	sent(t, "vote", hand(c, names, proposeOf(0, 0, 0, nameA, -1), prepareOf(0, 0, 0, nameA)), prepareOf(2, 0, 0, nameA))
	sent(t, "give up", c.Tick(names, 0), commitOf(2, 0, 0, -1), prepareOf(2, 0, 0, nameA))
	sent(t, "the next view", c.Tick(names, 0))
	is(t, "the next view", c, free(0, 1, Propose))
	sent(t, "give up", c.Tick(names, 0), prepareOf(2, 0, 1, -1))
	sent(t, "give up", c.Tick(names, 0), commitOf(2, 0, 1, -1), prepareOf(2, 0, 1, -1))
	sent(t, "its turn", c.Tick(names, nameC), proposeOf(2, 0, 2, nameC, -1), prepareOf(2, 0, 2, nameC))
	sent(t, "give up", c.Tick(names, nameA), commitOf(2, 0, 2, -1), proposeOf(2, 0, 2, nameC, -1), prepareOf(2, 0, 2, nameC))
}

// TestTickGivesUp: if nothing comes in time, it votes for nothing twice, and goes on; the patience doubles with each view.
func TestTickGivesUp(t *testing.T) {
	for _, p := range [][]int{{1, 1, 1, 1, 1}, {1, 8, 1, 2, 4, 8, 8}, {3, 10, 3, 6, 10, 10}, {100, 150, 100, 150, 150}, {5, 2, 2, 2}} {
		c := New(6, alike(7), p[0], p[1])
		sent(t, "begin", c.Tick(nil, 0))
		for view, patience := range p[2:] {
			is(t, "waits for a proposal", c, free(0, view, Propose))
			for range patience - 1 {
				sent(t, "waits for a proposal", c.Tick(nil, 0))
			}
			sent(t, "prepares nothing", c.Tick(nil, 0), prepareOf(6, 0, view, -1))
			is(t, "prepares nothing", c, free(0, view, Prepare))
			for range patience - 1 {
				sent(t, "waits for votes", c.Tick(nil, 0), prepareOf(6, 0, view, -1))
			}
			sent(t, "commits nothing", c.Tick(nil, 0), commitOf(6, 0, view, -1), prepareOf(6, 0, view, -1))
			is(t, "commits nothing", c, free(0, view, Commit))
			for range patience - 1 {
				sent(t, "waits for an end", c.Tick(nil, 0), prepareOf(6, 0, view, -1), commitOf(6, 0, view, -1))
			}
			sent(t, "goes on", c.Tick(nil, 0))
		}
	}
}

// TestTickGivesUpAndSettles: what its vote for nothing leads to is done in the same tick.
func TestTickGivesUpAndSettles(t *testing.T) {
	c := New(3, alike(4), 1, 1)
	c.Tick(nil, 0)
	hand(c, nil, prepareOf(0, 0, 0, -1), prepareOf(1, 0, 0, -1))
	sent(t, "give up", c.Tick(nil, 0), prepareOf(3, 0, 0, -1), commitOf(3, 0, 0, -1))
	is(t, "give up", c, free(0, 0, Commit))
}

// TestTickGivesUpFirst: it gives up ahead of asking what could be done.
func TestTickGivesUpFirst(t *testing.T) {
	c := New(3, alike(4), 1, 1)
	c.Tick(nil, 0)
	hand(c, nil, proposeOf(0, 0, 0, nameA, -1))
	sent(t, "known with the tick", c.Tick(names, 0), prepareOf(3, 0, 0, -1))
	is(t, "known with the tick", c, free(0, 0, Prepare))
	hand(c, nil, prepareOf(0, 0, 0, nameA), prepareOf(1, 0, 0, nameA), prepareOf(2, 0, 0, nameA))
	sent(t, "prepared with the tick", c.Tick(names, 0), commitOf(3, 0, 0, -1), prepareOf(3, 0, 0, -1))
	is(t, "prepared with the tick", c, free(0, 0, Commit))
	sent(t, "to be proposed", c.Tick(names, 0))
	is(t, "to be proposed", c, free(0, 1, Propose))
}

// TestTickLastView: there is no view behind view 1000; there it waits on, and says what it said.
func TestTickLastView(t *testing.T) {
	c := New(3, alike(4), 2, 3)
	c.Tick(nil, 0)
	hand(c, nil, prepareOf(0, 0, 1000, nameA), prepareOf(1, 0, 1000, nameA))
	is(t, "the last view", c, free(0, 1000, Propose))
	ticked(t, c, nil, 0, 1000, Commit)
	for range 20 {
		sent(t, "the last view", c.Tick(nil, 0), prepareOf(3, 0, 1000, -1), commitOf(3, 0, 1000, -1))
		is(t, "the last view", c, free(0, 1000, Commit))
	}
	hand(c, nil, commitOf(0, 0, 1000, nameA), commitOf(1, 0, 1000, nameA))
	sent(t, "decided", hand(c, nil, commitOf(2, 0, 1000, nameA)), decidedOf(3, 0, nameA))
	is(t, "decided", c, free(1, 0, Rest))
}

// TestTickToTheLastView: view by view, from the first to the last.
func TestTickToTheLastView(t *testing.T) {
	c := New(0, alike(2), 1, 1)
	ticked(t, c, nil, 0, 999, Commit)
	c.Tick(nil, 0)
	is(t, "the last view", c, free(0, 1000, Prepare))
	ticked(t, c, nil, 0, 1000, Commit)
	c.Tick(nil, 0)
	is(t, "the last view", c, free(0, 1000, Commit))
}

// TestTickDecides: in a tick that decides nothing is said again.
func TestTickDecides(t *testing.T) {
	c := New(0, []int{7, 1, 1}, 1, 1)
	sent(t, "decided", c.Tick(names, nameA), proposeOf(0, 0, 0, nameA, -1), prepareOf(0, 0, 0, nameA), commitOf(0, 0, 0, nameA), decidedOf(0, 0, nameA))
	is(t, "decided", c, free(1, 0, Rest))
}

// TestTickAny: of what can't be only that the call ends is promised.
func TestTickAny(t *testing.T) {
	for _, stakes := range [][]int{nil, {0}, {-5, -5}, alike(1), alike(4), alike(8), alike(100)} {
		for _, me := range append([]int{0, 3, 7}, far...) {
			for _, n := range append([]int{0, 1, 100, 101}, far...) {
				c := New(me, stakes, n, 1)
				d := New(me, stakes, 1, n)
				for range 30 {
					c.Tick(far, n)
					d.Tick(nil, n)
				}
			}
		}
	}
}
