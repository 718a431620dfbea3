package check

import (
	"math"
	"slices"
	"testing"

	"neaptide/api"
)

// TestHandleOtherKinds: transactions, blocks and asks are nothing to it; it doesn't even look whether it could do something by now.
func TestHandleOtherKinds(t *testing.T) {
	c := New(1, alike(4), 5, 9)
	c.Tick(nil, 0)
	hand(c, nil, proposeOf(0, 0, 0, nameB, -1))
	for _, m := range []api.Msg{
		{Kind: api.KindTx, From: 0, Tx: api.Tx{ID: 1, Fee: 5}},
		{Kind: api.KindBlock, From: 2, Block: api.Block{Slot: 2, Miner: 1}},
		{Kind: api.KindAsk, From: 3, Value: nameB},
	} {
		sent(t, "another kind", c.Handle(m, names))
		is(t, "another kind", c, free(0, 0, Propose))
	}
}

// TestHandleNobody: who isn't a node has no say, and isn't told anything either.
func TestHandleNobody(t *testing.T) {
	c := New(1, alike(3), 5, 9)
	c.Restore([]api.Rec{{Kind: 6, Value: nameA}})
	c.Tick(nil, 0)
	for _, from := range []int{3, 4, 5, 6} {
		for index := range 3 {
			for view := range 3 {
				sent(t, "nobody", hand(c, names, proposeOf(from, index, view, nameB, -1), prepareOf(from, index, view, nameB), commitOf(from, index, view, nameB), decidedOf(from, index, nameB)))
			}
		}
	}
	is(t, "nobody", c, free(1, 0, Prepare))
	sent(t, "of nobody's votes nothing is there", hand(c, names, prepareOf(0, 1, 0, 0)))
}

// TestHandleLesserIndex: who votes in an index that is decided is told what, alone.
func TestHandleLesserIndex(t *testing.T) {
	c := New(1, alike(4), 5, 9)
	c.Restore([]api.Rec{{Kind: 6, Value: nameA}, {Kind: 6, Index: 1, Value: 0}, {Kind: 6, Index: 2, Value: nameC}})
	for index, value := range []int{nameA, 0, nameC} {
		for from := range 4 {
			want := []api.Act{{To: from, Msg: decidedOf(1, index, value)}}
			for _, m := range []api.Msg{
				proposeOf(from, index, 0, nameB, -1), proposeOf(from, index, 9, nameB, 3), proposeOf(from, index, 1, value, -1),
				prepareOf(from, index, 0, -1), prepareOf(from, index, 1000, nameB), commitOf(from, index, 0, nameB), commitOf(from, index, 5, value),
			} {
				if got := c.Handle(m, names); !sameActs(got, want) {
					t.Errorf("%v: %v, not %v", m, got, want)
				}
			}
			sent(t, "it was decided", hand(c, names, decidedOf(from, index, value), decidedOf(from, index, nameB)))
		}
	}
	is(t, "lesser", c, free(3, 0, Rest))
	if got := c.Decisions(); !slices.Equal(got, []int{nameA, 0, nameC}) {
		t.Error("decided is", got)
	}
}

// TestHandleLesserIndexAlone: by a message of an index that is decided nothing else is done, though it could be.
func TestHandleLesserIndexAlone(t *testing.T) {
	c := New(2, alike(4), 5, 9)
	c.Restore([]api.Rec{{Kind: 6, Value: nameA}})
	c.Tick(nil, 0)
	hand(c, nil, proposeOf(1, 1, 0, nameB, -1))
	got := c.Handle(prepareOf(3, 0, 0, nameB), names)
	if want := []api.Act{{To: 3, Msg: decidedOf(2, 0, nameA)}}; !sameActs(got, want) {
		t.Errorf("%v, not %v", got, want)
	}
	sent(t, "decided", c.Handle(decidedOf(3, 0, nameA), names))
	is(t, "the vote waits", c, free(1, 0, Propose))
}

// TestHandleGreaterIndex: what is said of a later index is lost.
func TestHandleGreaterIndex(t *testing.T) {
	c := New(1, alike(4), 5, 9)
	c.Tick(nil, 0)
	hand(c, nil, proposeOf(0, 0, 0, nameB, -1))
	for from := range 4 {
		for _, index := range []int{1, 2, 1000} {
			sent(t, "greater", hand(c, names, proposeOf(from, index, 0, nameB, -1), prepareOf(from, index, 3, nameB), commitOf(from, index, 0, nameB), decidedOf(from, index, nameB)))
		}
	}
	is(t, "greater", c, free(0, 0, Propose))
	hand(c, nil, decidedOf(0, 0, 0), decidedOf(3, 0, 0))
	is(t, "the next index", c, free(1, 0, Rest))
	sent(t, "nothing is there", c.Tick(names, nameA), proposeOf(1, 1, 0, nameA, -1), prepareOf(1, 1, 0, nameA))
}

// TestHandleProposeOfOthers: only whose turn it is proposes, in each index and view.
func TestHandleProposeOfOthers(t *testing.T) {
	for nodes := 2; nodes <= 7; nodes++ {
		for index := range 3 {
			for view := range 9 {
				leader := (index + view) % nodes
				me := (leader + 1) % nodes
				c := New(me, alike(nodes), 1, 1)
				var l []api.Rec
				for i := range index {
					l = append(l, api.Rec{Kind: 6, Index: i})
				}
				c.Restore(l)
				ticked(t, c, nil, 0, view, Propose)
				for from := range nodes {
					if from != leader {
						sent(t, "not its turn", c.Handle(proposeOf(from, index, view, nameB, -1), names))
					}
				}
				is(t, "not its turn", c, free(index, view, Propose))
				sent(t, "its turn", c.Handle(proposeOf(leader, index, view, nameA, -1), names), prepareOf(me, index, view, nameA))
			}
		}
	}
}

// TestHandleProposeFirst: the first one holds, also of one that says two, and of a view that is to come.
func TestHandleProposeFirst(t *testing.T) {
	c := New(3, alike(4), 1, 1)
	c.Tick(nil, 0)
	sent(t, "two of this view", hand(c, []int{nameA}, proposeOf(0, 0, 0, nameB, -1), proposeOf(0, 0, 0, nameA, -1)))
	sent(t, "the first one", c.Handle(proposeOf(1, 0, 1, nameC, -1), names), prepareOf(3, 0, 0, nameB))
	c.Handle(proposeOf(1, 0, 1, nameA, -1), names)
	ticked(t, c, nil, 0, 1, Propose)
	sent(t, "of the next view", c.Handle(proposeOf(1, 0, 1, nameA, -1), names), prepareOf(3, 0, 1, nameC))
}

// TestHandleOfMe: what comes under its own name counts as its own.
func TestHandleOfMe(t *testing.T) {
	c := New(1, alike(4), 5, 9)
	c.Tick(names, 0)
	sent(t, "its own vote", c.Handle(prepareOf(1, 0, 0, nameC), names))
	sent(t, "it doesn't vote again", c.Handle(proposeOf(0, 0, 0, nameA, -1), names))
	is(t, "it doesn't vote again", c, free(0, 0, Prepare))
	sent(t, "it says so", c.Tick(names, 0), prepareOf(1, 0, 0, nameC))

	c = New(1, alike(4), 1, 1)
	c.Handle(proposeOf(1, 0, 1, nameC, -1), names)
	ticked(t, c, nil, nameA, 1, Propose)
	sent(t, "its own proposal, unknown", c.Tick(nil, nameA), prepareOf(1, 0, 1, -1), proposeOf(1, 0, 1, nameC, -1))
}

// TestHandleSettlesAlways: also by a message that counts for nothing whatever can be done is done.
func TestHandleSettlesAlways(t *testing.T) {
	for name, m := range map[string]api.Msg{
		"a vote that was there":        prepareOf(0, 0, 0, nameC),
		"a proposal that was there":    proposeOf(0, 0, 0, nameC, -1),
		"a proposal out of turn":       proposeOf(2, 0, 0, nameC, -1),
		"a decision of one":            decidedOf(2, 0, nameC),
		"another decision of that one": decidedOf(3, 0, nameC),
	} {
		c := New(1, alike(4), 5, 9)
		c.Tick(nil, 0)
		hand(c, nil, proposeOf(0, 0, 0, nameB, -1), prepareOf(0, 0, 0, nameB), decidedOf(3, 0, nameA))
		is(t, name, c, free(0, 0, Propose))
		sent(t, name, c.Handle(m, names), prepareOf(1, 0, 0, nameB))
		is(t, name, c, free(0, 0, Prepare))
	}
}

// TestHandleOrder: all that one message leads to is sent, in the order in which it is done.
func TestHandleOrder(t *testing.T) {
	c := New(2, alike(4), 5, 9)
	c.Tick(names, nameA)
	hand(c, names, prepareOf(0, 0, 6, nameA), commitOf(0, 0, 6, nameA), commitOf(3, 0, 5, nameA))
	is(t, "in view 5", c, free(0, 5, Propose))
	hand(c, names, commitOf(1, 0, 5, nameB), prepareOf(3, 0, 5, nameB))
	acts := hand(c, names, prepareOf(1, 0, 6, nameA))
	sent(t, "all of view 6", acts, proposeOf(2, 0, 6, nameA, -1), prepareOf(2, 0, 6, nameA), commitOf(2, 0, 6, nameA))
	sent(t, "the end", hand(c, names, commitOf(1, 0, 6, nameA)), decidedOf(2, 0, nameA))
}

// TestHandleAny: of messages that can't be only that the call ends is promised.
func TestHandleAny(t *testing.T) {
	numbers := append([]int{0, 1, 2, 3, 4, 5, 6, 7, 1000, nameA, -1}, far...)
	for _, stakes := range [][]int{nil, {}, {0}, {-1}, alike(1), alike(4), alike(9), {math.MinInt, math.MaxInt, 1}} {
		for _, me := range []int{0, 1, -1, math.MinInt, math.MaxInt} {
			c := New(me, stakes, 1, 1)
			for _, n := range numbers {
				for _, x := range numbers {
					for kind := range 8 {
						c.Handle(api.Msg{Kind: kind, From: x & 3, Index: n, View: x, Value: n, Prepared: x}, numbers)
						c.Handle(api.Msg{Kind: kind, From: n, Index: c.Index(), View: x, Value: x, Prepared: n}, numbers)
						c.Handle(api.Msg{Kind: kind, From: x & 3, Index: c.Index(), View: n, Value: x, Prepared: x - 1}, nil)
					}
					c.Handle(api.Msg{Kind: n, From: x, Value: x}, numbers)
				}
				c.Tick(numbers, n)
				c.Lock()
				c.Decisions()
			}
		}
	}
}
