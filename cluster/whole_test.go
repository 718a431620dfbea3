package cluster

import (
	"bytes"
	"math"
	"slices"
	"testing"

	"neaptide/api"
	"neaptide/journal"
	"neaptide/msg"
)

// heard answers how often a message is on its way.
func heard(t *testing.T, c *Cluster, m api.Msg) int {
	t.Helper()
	many := 0
	for _, p := range wayOf(c) {
		if bytes.Equal(p.data, dataOf(t, m)) {
			many++
		}
	}
	return many
}

// dropBlock drops all parcels to a node that have a block of that name.
func dropBlock(t *testing.T, c *Cluster, to int, b api.Block) {
	t.Helper()
	for from := range 4 {
		for at := where(c, to, dataOf(t, blockOf(from, b))); at >= 0; at = where(c, to, dataOf(t, blockOf(from, b))) {
			does(t, "lost", c, drop(at))
		}
	}
}

// TestWhole1: one node alone that wins each slot: with each tick a block, and a decision.
func TestWhole1(t *testing.T) {
	c := begin(t, so(1))
	var want []int
	for slot := 1; slot <= 200; slot++ {
		does(t, "the next slot", c, tick())
		want = append(want, of(slot, 0))
		if c.Tip(0) != of(slot, 0) || !slices.Equal(c.Decisions(0), want) || c.Len() != 0 {
			t.Fatalf("slot %d: its tip is %d, decided are %v", slot, c.Tip(0), c.Decisions(0))
		}
	}
}

// TestWhole2: four nodes, all delivered: a transaction handed in to one is in both ledgers of all.
func TestWhole2(t *testing.T) {
	for deep := range 3 {
		for to := range 4 {
			config := so(4)
			config.Deep = deep
			c := begin(t, config)
			does(t, "a transaction", c, submit(to, 5, 1))
			slots(t, c, 8)
			for i := range 4 {
				if !slices.Equal(c.Final(i), []int{5}) || !slices.Equal(c.Avail(i), []int{5}) {
					t.Errorf("deep %d, handed in to %d: of %d the ledgers are %v and %v", deep, to, i, c.Final(i), c.Avail(i))
				}
			}
		}
	}
}

// TestWhole3and4: two of four sleep: nothing is decided, the chain goes on, the available ledger grows. They wake: decisions are made again.
func TestWhole3and4(t *testing.T) {
	c := begin(t, so(4))
	does(t, "a transaction", c, submit(0, 1, 1))
	slots(t, c, 4)
	was := see(c, 0)
	if len(was.decisions) == 0 || !slices.Equal(was.final, []int{1}) {
		t.Fatalf("node 0 tells %+v", was)
	}
	does(t, "two sleep", c, sleep(2), sleep(3))
	for i := range 12 {
		does(t, "a transaction", c, submit(i%2, 10+i, 1))
		slots(t, c, 1)
	}
	now := see(c, 0)
	// What was decided when they fell asleep is all that can be.
	if len(now.decisions) > len(was.decisions)+1 || len(now.final) > 2 {
		t.Errorf("decided is %v, and was %v", now.decisions, was.decisions)
	}
	if now.tip <= was.tip || len(now.avail) < 8 || !slices.Equal(see(c, 1).avail, now.avail) {
		t.Errorf("the chain doesn't go on: %+v", now)
	}
	if c.Len() == 0 || c.Tip(2) != was.tip {
		t.Error("those that sleep hear something: on their way are", c.Len())
	}
	does(t, "they wake", c, wake(2), wake(3))
	calm(c)
	if c.Len() > 0 || c.Tip(2) != now.tip || c.Tip(3) != now.tip {
		t.Errorf("what was said meanwhile doesn't reach them: %d, %d, not %d", c.Tip(2), c.Tip(3), now.tip)
	}
	slots(t, c, 20)
	for i := range 4 {
		if s := see(c, i); len(s.decisions) <= len(now.decisions) || len(s.final) < 12 || !slices.Equal(s.decisions, c.Decisions(0)) {
			t.Errorf("node %d tells %+v", i, s)
		}
	}
}

// TestWhole5: a leader is bad and silent: the others wait, vote for nothing, and go to the next view.
func TestWhole5(t *testing.T) {
	c := begin(t, so(4, 0))
	var said []api.Msg
	for range 30 {
		does(t, "the next slot", c, tick())
		for at := 0; at < c.Len(); {
			said = append(said, saysOf(t, wayOf(c)[at:at+1])[0].m)
			if !c.Step(deliver(at)) {
				at++
			}
		}
	}
	for _, kind := range []int{api.KindPrepare, api.KindCommit} {
		for _, from := range []int{1, 2, 3} {
			for _, m := range []api.Msg{voteOf(kind, from, 0, 0, -1), voteOf(kind, from, 0, 1, c.Decisions(1)[0])} {
				if !slices.ContainsFunc(said, func(o api.Msg) bool { return msg.Same(o, m) }) {
					t.Errorf("%+v isn't said", m)
				}
			}
		}
	}
	if l := c.Decisions(1); len(l) < 4 || !slices.Equal(l, c.Decisions(2)) || !slices.Equal(l, c.Decisions(3)) {
		t.Error("decided are", c.Decisions(1), c.Decisions(2), c.Decisions(3))
	}
}

// TestWhole6: a bad one votes for two things: at most one of them is ever decided. Two of them together could have both decided.
func TestWhole6(t *testing.T) {
	for _, bad := range [][]int{{3}, {2, 3}} {
		config := so(4, bad...)
		config.Draws[0] = 3
		c := begin(t, config)
		does(t, "each on its own side", c, submit(0, 1, 1), submit(1, 2, 1), cut(1|4|8))
		does(t, "two blocks", c, tick())
		for _, from := range bad {
			for _, kind := range []int{api.KindPrepare, api.KindCommit} {
				does(t, "a vote for the one", c, inject(0, dataOf(t, voteOf(kind, from, 0, 0, of(1, 0)))))
				does(t, "a vote for the other", c, cut(2|4|8), inject(1, dataOf(t, voteOf(kind, from, 0, 1, of(1, 1)))))
			}
		}
		calm(c)
		does(t, "the other side", c, cut(1|4|8))
		calm(c)
		one, other := c.Final(0), c.Final(1)
		if both := slices.Equal(one, []int{1}) && slices.Equal(other, []int{2}); both != (len(bad) == 2) || alike(one, other) == both {
			t.Errorf("bad are %v, and final are %v and %v", bad, one, other)
		}
		does(t, "healed", c, cut(0))
		slots(t, c, 30)
		if len(bad) == 1 && (len(c.Final(0)) == 0 || !alike(c.Final(0), c.Final(1))) {
			t.Errorf("final are %v and %v", c.Final(0), c.Final(1))
		}
	}
}

// TestWhole7: the nodes are cut in two: neither side decides; healed, all have one tip again.
func TestWhole7(t *testing.T) {
	c := begin(t, so(4))
	does(t, "cut in two", c, cut(1|2))
	slots(t, c, 20)
	for i := range 4 {
		if s := see(c, i); len(s.decisions) > 0 || s.tip != c.Tip(i^1) || s.tip == c.Tip(i^2) {
			t.Errorf("cut, node %d tells %+v", i, s)
		}
	}
	does(t, "healed", c, cut(0))
	slots(t, c, 20)
	for i := range 4 {
		if s := see(c, i); len(s.decisions) == 0 || s.tip != c.Tip(0) || !slices.Equal(s.decisions, c.Decisions(0)) {
			t.Errorf("healed, node %d tells %+v", i, s)
		}
	}
}

// TestWhole8: a node crashes in the midst of a record: the record is gone, all that were synced are there; it votes no other way than before.
func TestWhole8(t *testing.T) {
	c := begin(t, so(4))
	slots(t, c, 4)
	does(t, "the next slot", c, tick())
	at := where(c, 3, dataOf(t, blockOf(0, on(of(4, 3), 5, 0))))
	does(t, "a block that is written, but not synced", c, deliver(at))
	d := c.members[3].disk
	recs, synced := journal.Read(d), d.Synced()
	votes := map[[3]int]int{}
	for _, r := range recs {
		if r.Kind == api.KindPrepare || r.Kind == api.KindCommit {
			votes[[3]int{r.Kind, r.Index, r.View}] = r.Value
		}
	}
	size := len(d.Bytes()) - synced
	if size < 2 || len(votes) == 0 || c.Tip(3) != of(5, 0) {
		t.Fatalf("%d bytes aren't synced, it voted %v", size, votes)
	}
	was := c.Decisions(3)
	does(t, "in the midst of it", c, crash(3, size-1), start(3))
	if now := journal.Read(d); len(now) != len(recs)-1 || len(d.Bytes()) != synced || c.Tip(3) != of(4, 3) {
		t.Errorf("it has %d records of %d, its tip is %d", len(now), len(recs), c.Tip(3))
	}
	if !slices.Equal(c.Decisions(3), was) {
		t.Errorf("decided was %v, and is %v", was, c.Decisions(3))
	}
	for range 30 {
		does(t, "the next slot", c, tick())
		for at := 0; at < c.Len(); {
			s := saysOf(t, wayOf(c)[at:at+1])[0]
			value, again := votes[[3]int{s.m.Kind, s.m.Index, s.m.View}]
			if s.from == 3 && again && value != s.m.Value {
				t.Fatalf("it voted %d, and says %+v", value, s.m)
			}
			if !c.Step(deliver(at)) {
				at++
			}
		}
	}
	if l := c.Decisions(3); len(l) < 20 || !slices.Equal(l, c.Decisions(0)) {
		t.Errorf("decided are %v and %v", l, c.Decisions(0))
	}
}

// TestWhole9: a disk is full: the node is down, and says nothing more; the others go on.
func TestWhole9(t *testing.T) {
	c := begin(t, so(4))
	slots(t, c, 2)
	before := len(c.Decisions(1))
	does(t, "its disk is full", c, room(1, 0))
	slots(t, c, 1)
	nothing(t, "down", c, 1, true, true)
	calm(c)
	empty(t, c)
	was := len(c.Decisions(0))
	for range 12 {
		does(t, "the next slot", c, tick())
		doesNot(t, "down", c, submit(1, 5, 1))
		for at := 0; at < c.Len(); {
			if p := wayOf(c)[at]; p.from == 1 {
				t.Fatalf("it says %+v", saysOf(t, []parcel{p}))
			}
			if !c.Step(deliver(at)) {
				at++
			}
		}
	}
	if len(c.Decisions(0)) < was+4 {
		t.Errorf("three of four decided %v", c.Decisions(0))
	}
	does(t, "with room it begins again", c, room(1, 65536), crash(1, 0), start(1))
	slots(t, c, 12)
	if l := c.Decisions(1); !c.Up(1) || len(l) <= before || !alike(l, c.Decisions(0)) || c.Tip(1) != c.Tip(0) {
		t.Errorf("it decided %v, beside %v, and its tip is %d, beside %d", l, c.Decisions(0), c.Tip(1), c.Tip(0))
	}
}

// TestWhole10: a block whose transactions are final already is confirmed: in the available ledger each stands once.
func TestWhole10(t *testing.T) {
	config := so(4)
	config.Draws = []int{3, 2, 2, 4}
	c := begin(t, config)
	does(t, "both have it", c, submit(0, 7, 1), submit(1, 7, 1), submit(1, 8, 0))
	empty(t, c)
	does(t, "two blocks", c, tick())
	one, other := api.Block{Slot: 1, Txs: []api.Tx{{ID: 7, Fee: 1}}}, api.Block{Slot: 1, Miner: 1, Txs: []api.Tx{{ID: 7, Fee: 1}, {ID: 8}}}
	if heard(t, c, blockOf(0, one)) != 3 || heard(t, c, blockOf(1, other)) != 3 {
		t.Fatalf("on their way are %+v", saysOf(t, wayOf(c)))
	}
	dropBlock(t, c, 1, one)
	calm(c)
	if !slices.Equal(c.Decisions(2), []int{of(1, 0)}) || !slices.Equal(c.Final(2), []int{7}) {
		t.Fatalf("decided is %v, final %v", c.Decisions(2), c.Final(2))
	}
	does(t, "1 stands on its own", c, tick())
	calm(c)
	if c.Tip(2) != of(2, 1) || c.Confirmed(2) != of(2, 1) {
		t.Fatalf("confirmed is %d", c.Confirmed(2))
	}
	for _, i := range []int{0, 2, 3} {
		if got := c.Avail(i); !slices.Equal(got, []int{7, 8}) {
			t.Errorf("of %d available is %v", i, got)
		}
	}
	slots(t, c, 10)
	for i := range 4 {
		if !slices.Equal(c.Final(i), []int{7, 8}) || !slices.Equal(c.Avail(i), []int{7, 8}) {
			t.Errorf("of %d the ledgers are %v and %v", i, c.Final(i), c.Avail(i))
		}
	}
}

// TestAnyStep: whatever is asked, each call ends, and none panics (P1).
func TestAnyStep(t *testing.T) {
	c := begin(t, so(7, 6, 2))
	numbers := append([]int{0, 1, 2, 3, 4, 5, 6, 9, 10, 11, 12}, far...)
	for _, kind := range numbers {
		for _, i := range numbers {
			for _, n := range []int{math.MinInt, -1, 0, 1, 3, 4000, math.MaxInt} {
				c.Step(api.Step{Kind: kind, Node: i, N: n, Tx: api.Tx{ID: i, Fee: n}, Data: make([]byte, i&255)})
				c.Step(tick())
			}
		}
	}
	for _, i := range numbers {
		see(c, i)
	}
}
