package chain

import (
	"math"
	"slices"
	"testing"

	"neaptide/api"
)

// far are numbers that no slot, no node and no block has.
var far = []int{math.MinInt, math.MinInt + 1, -1 << 32, -1<<32 + 1, -65536, -7, -1, 1<<32 - 1, 1 << 32, 1<<32 + 1, math.MaxInt - 1, math.MaxInt}

// n answers the name of node 0's first block of a slot.
func n(slot int) int { return slot * 65536 }

// of answers the name of a node's first block of a slot.
func of(slot, miner int) int { return slot*65536 + miner*256 }

// on answers node 0's first block of a slot, on another one, with transactions of these IDs.
func on(parent, slot int, ids ...int) api.Block {
	b := api.Block{Slot: slot, Parent: parent}
	for _, id := range ids {
		b.Txs = append(b.Txs, api.Tx{ID: id, Fee: id % 7})
	}
	return b
}

// at answers a chain without blocks in a slot; in each of the first 200 slots all nodes win.
func at(slot, deep int) *Chain {
	c := New(slices.Repeat([]int{127}, 200), deep)
	c.Next(slot)
	return c
}

// takes tells it, if a block isn't taken, or makes others known than these.
func takes(t *testing.T, c *Chain, b api.Block, want ...int) {
	t.Helper()
	got, e := c.Take(b)
	if e != 0 || !slices.Equal(got, want) {
		t.Errorf("Take(%v): %v %d, not %v", b, got, e, want)
	}
}

// refuses tells it, if a block is taken, or if anything changes by it.
func refuses(t *testing.T, c *Chain, name string, b api.Block) {
	t.Helper()
	before := lookAt(c)
	if got, e := c.Take(b); e != 111 || len(got) != 0 {
		t.Errorf("%s: Take(%v): %v %d", name, b, got, e)
	}
	if now := lookAt(c); !now.same(before) {
		t.Errorf("%s: %v was %v", name, now, before)
	}
}

// look is what a chain tells.
type look struct {
	slot, tip, confirmed    int
	names, waiting, missing []int
	txs                     []int
}

// lookAt answers what a chain tells now.
func lookAt(c *Chain) look {
	x := c.Tree()
	return look{c.Slot(), x.Tip(), c.Confirmed(), x.Names(), x.Waiting(), x.Missing(), c.Txs(x.Tip())}
}

// same tells whether two looks are.
func (l look) same(m look) bool {
	return l.slot == m.slot && l.tip == m.tip && l.confirmed == m.confirmed &&
		slices.Equal(l.names, m.names) && slices.Equal(l.waiting, m.waiting) && slices.Equal(l.missing, m.missing) && slices.Equal(l.txs, m.txs)
}

func TestNew(t *testing.T) {
	for deep := range 11 {
		for _, draws := range [][]int{nil, {}, {0}, {127}, slices.Repeat([]int{127}, 200)} {
			if l := lookAt(New(draws, deep)); !l.same(look{}) {
				t.Errorf("%d deep, %d draws: %v", deep, len(draws), l)
			}
		}
	}
}

func TestNext(t *testing.T) {
	c := at(0, 0)
	for _, s := range []struct{ next, want int }{
		{0, 0}, {-1, 0}, {math.MinInt, 0}, {1, 1}, {1, 1}, {0, 1}, {-5, 1}, {2, 2}, {9, 9}, {8, 9}, {1, 9}, {10, 10},
		{200, 200}, {201, 201}, {4095, 4095}, {4096, 4096}, {1 << 32, 1 << 32}, {1<<32 - 1, 1 << 32}, {math.MinInt, 1 << 32}, {math.MaxInt, math.MaxInt}, {0, math.MaxInt},
	} {
		c.Next(s.next)
		if c.Slot() != s.want {
			t.Errorf("behind Next(%d): %d, not %d", s.next, c.Slot(), s.want)
		}
	}
}

// TestTreeItself: what is added to it is there for the chain, and the other way.
func TestTreeItself(t *testing.T) {
	c := at(2, 0)
	x := c.Tree()
	takes(t, c, on(0, 1, 5), n(1))
	if !x.Has(n(1)) || c.Tree() != x {
		t.Error("what is taken isn't in the tree that was handed out ahead of it")
	}
	// The tree asks for no draw and no slot.
	if _, ok := x.Add(on(n(1), 300, 6)); !ok || c.Confirmed() != n(300) || !slices.Equal(c.Txs(n(300)), []int{5, 6}) {
		t.Error("what is added to the tree isn't there for the chain:", c.Confirmed(), c.Txs(n(300)))
	}
	refuses(t, c, "one that the tree has", on(n(1), 300, 6))
}

// TestExample: deep 1, blocks in slots 1 and 2: the one of slot 1 is confirmed.
func TestExample(t *testing.T) {
	c := New([]int{1, 1}, 1)
	c.Next(2)
	takes(t, c, on(0, 1), n(1))
	takes(t, c, on(n(1), 2), n(2))
	if c.Confirmed() != n(1) {
		t.Error(c.Confirmed())
	}
}

func TestConfirmed(t *testing.T) {
	for deep := range 11 {
		c := at(200, deep)
		for i := range 15 {
			want := n(max(i-deep, 0))
			if c.Confirmed() != want {
				t.Errorf("%d deep, %d blocks: %d, not %d", deep, i, c.Confirmed(), want)
			}
			takes(t, c, on(n(i), i+1), n(i+1))
		}
	}
}

// TestConfirmedOfTheTip: it hangs on the highest one, whatever came last, and may go over to another way.
func TestConfirmedOfTheTip(t *testing.T) {
	c := at(9, 1)
	takes(t, c, on(0, 2), n(2))
	takes(t, c, on(n(2), 4), n(4))
	takes(t, c, on(0, 1), n(1))
	takes(t, c, on(n(1), 5), n(5))
	if c.Confirmed() != n(2) {
		t.Error("of two as high the one of the lesser name counts:", c.Confirmed())
	}
	takes(t, c, on(n(6), 7))
	if c.Confirmed() != n(2) {
		t.Error("what waits counts:", c.Confirmed())
	}
	takes(t, c, on(n(5), 6), n(6), n(7))
	if c.Confirmed() != n(6) {
		t.Error("the other way is higher:", c.Confirmed())
	}
	takes(t, c, on(n(1), 3), n(3))
	if c.Confirmed() != n(6) {
		t.Error("a lower one came last:", c.Confirmed())
	}
}

func TestTxs(t *testing.T) {
	c := at(9, 2)
	takes(t, c, on(0, 1, 8, 3), n(1))
	takes(t, c, on(n(1), 2), n(2))
	takes(t, c, on(n(2), 3, 5), n(3))
	takes(t, c, on(n(3), 4, 3, 9, 8), n(4))
	takes(t, c, on(n(2), 5, 1, 3), n(5))
	takes(t, c, on(n(7), 8, 2))
	for name, want := range map[int][]int{
		0: {}, n(1): {8, 3}, n(2): {8, 3}, n(3): {8, 3, 5}, n(4): {8, 3, 5, 3, 9, 8}, n(5): {8, 3, 1, 3},
		n(6): {}, n(8): {}, of(1, 1): {}, n(1) + 1: {}, 1: {}, 8: {},
	} {
		if got := c.Txs(name); !slices.Equal(got, want) {
			t.Errorf("of %d: %v, not %v", name, got, want)
		}
	}
	for _, name := range far {
		if got := c.Txs(name); len(got) != 0 {
			t.Errorf("of %d: %v", name, got)
		}
	}
}

// TestDrawsThatAreNone: of these, and of depths that aren't promised, only that the calls end.
func TestDrawsThatAreNone(t *testing.T) {
	for _, draws := range [][]int{nil, {-1, math.MinInt, math.MaxInt, 128, 1 << 32}, slices.Repeat([]int{-1}, 5000)} {
		for _, deep := range append([]int{0, 3, 10, 11, 400}, far...) {
			c := New(draws, deep)
			for _, slot := range append([]int{0, 1, 2, 3, 200, 201, 4095, 4096}, far...) {
				c.Next(slot)
				for _, miner := range []int{0, 1, 6, 7, math.MinInt, math.MaxInt} {
					if b, ok := c.Make(miner, []api.Tx{{ID: 1}, {ID: math.MaxInt}}); ok {
						c.Take(b)
					}
					c.Take(api.Block{Slot: slot, Miner: miner, Parent: slot})
				}
				c.Confirmed()
				c.Txs(slot)
			}
		}
	}
}
