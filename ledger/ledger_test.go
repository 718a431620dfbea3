package ledger

import (
	"math"
	"slices"
	"testing"

	"neaptide/api"
	"neaptide/chain"
)

// far are numbers that no block has for its name, and look like some.
var far = []int{
	math.MinInt, math.MinInt + 1, math.MinInt + n(1), -1 << 32, -1<<32 + n(1), -n(1), -2, -1, 1, 255, 256, 65535,
	n(1) + 7*256, n(4096), 1<<32 - 1, 1 << 32, 1<<32 + n(1), 1<<62 + n(1), math.MaxInt - 1, math.MaxInt,
}

// n answers the name of node 0's first block of a slot.
func n(slot int) int { return slot * 65536 }

// of answers the name of a node's first block of a slot.
func of(slot, miner int) int { return slot*65536 + miner*256 }

// with answers a node's first block of a slot, on another one, with transactions of these IDs.
func with(parent, slot, miner int, ids ...int) api.Block {
	b := api.Block{Slot: slot, Miner: miner, Parent: parent}
	for _, id := range ids {
		b.Txs = append(b.Txs, api.Tx{ID: id, Fee: id % 7})
	}
	return b
}

// on answers node 0's first block of a slot, on another one, with transactions of these IDs.
func on(parent, slot int, ids ...int) api.Block { return with(parent, slot, 0, ids...) }

// at answers a chain without blocks in slot 200; in each of the first 200 slots all nodes win.
func at(deep int) *chain.Chain {
	c := chain.New(slices.Repeat([]int{127}, 200), deep)
	c.Next(200)
	return c
}

// takes lets a chain take blocks, and tells it, if one isn't taken.
func takes(t *testing.T, c *chain.Chain, blocks ...api.Block) {
	t.Helper()
	for _, b := range blocks {
		if _, e := c.Take(b); e != 0 {
			t.Errorf("Take(%v): %d", b, e)
		}
	}
}

// begins tells whether a is a beginning of b.
func begins(a, b []int) bool { return len(a) <= len(b) && slices.Equal(a, b[:len(a)]) }

// look is what is told of a chain and of decisions.
type look struct {
	settled      int
	final, avail []int
}

// lookAt answers what is told now.
func lookAt(c *chain.Chain, decisions []int) look {
	return look{Settled(c, decisions), Final(c, decisions), Avail(c, decisions)}
}

// tells tells it, if something else is told than this, or if the decisions or the chain change by that.
func tells(t *testing.T, what string, c *chain.Chain, decisions []int, want look) {
	t.Helper()
	before, names, waiting, slot := slices.Clone(decisions), c.Tree().Names(), c.Tree().Waiting(), c.Slot()
	got := lookAt(c, decisions)
	if got.settled != want.settled || !slices.Equal(got.final, want.final) || !slices.Equal(got.avail, want.avail) {
		t.Errorf("%s: of %v is told\n%v, not\n%v", what, decisions, got, want)
	}
	if !begins(got.final, got.avail) {
		t.Errorf("%s: %v isn't a beginning of %v", what, got.final, got.avail)
	}
	if !slices.Equal(decisions, before) || !slices.Equal(c.Tree().Names(), names) || !slices.Equal(c.Tree().Waiting(), waiting) || c.Slot() != slot {
		t.Errorf("%s: of %v: it is changed", what, before)
	}
}

// TestExample: decided is a block with 1 and 2; confirmed one with 1 and 3.
func TestExample(t *testing.T) {
	c := at(0)
	takes(t, c, with(0, 1, 1, 1, 2), with(0, 1, 0, 1, 3))
	tells(t, "the example", c, []int{of(1, 1)}, look{1, []int{1, 2}, []int{1, 2, 3}})
}

func TestNothing(t *testing.T) {
	for deep := range 11 {
		c := at(deep)
		tells(t, "no block, no decision", c, nil, look{})
		tells(t, "no block, a list without decisions", c, []int{}, look{})
		tells(t, "decisions for no block", c, []int{0, 0, 0}, look{settled: 3})
		tells(t, "no block that is known", c, []int{n(1)}, look{})
		tells(t, "none behind one for no block", c, []int{0, n(1), 0}, look{settled: 1})
	}
}

// TestTwoChains: what one knows and confirms is nothing to another one.
func TestTwoChains(t *testing.T) {
	a, b := at(0), at(0)
	takes(t, a, on(0, 1, 4, 5))
	takes(t, b, on(0, 1, 6), on(n(1), 2, 7))
	for range 2 {
		tells(t, "one", a, []int{n(1), n(2)}, look{1, []int{4, 5}, []int{4, 5}})
		tells(t, "the other", b, []int{n(1), n(2)}, look{2, []int{6, 7}, []int{6, 7}})
	}
}

// TestChainsThatCantBe: of draws and depths that can't be, only that the calls end.
func TestChainsThatCantBe(t *testing.T) {
	for _, draws := range [][]int{nil, {0}, {-1, 128, math.MinInt, math.MaxInt}, slices.Repeat([]int{-1}, 5000)} {
		for _, deep := range append([]int{0, 10, 11, 400}, far...) {
			c := chain.New(draws, deep)
			for _, slot := range append([]int{1, 3}, far...) {
				c.Next(slot)
				c.Take(on(0, 1, 4))
				c.Take(on(n(1), slot, 4))
				for _, decisions := range [][]int{nil, {0, n(1), slot, n(3)}, far} {
					lookAt(c, decisions)
				}
			}
		}
	}
}
