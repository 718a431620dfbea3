package chain

import (
	"slices"
	"testing"

	"neaptide/api"
	"neaptide/block"
)

// TestDrawsAreNotKept: they may be written over behind New, and nothing is written into them.
func TestDrawsAreNotKept(t *testing.T) {
	draws := []int{1, 2, 3, 99, 98}
	before := slices.Clone(draws)
	c := New(draws[:3], 0)
	c.Next(2)
	makes(t, c, 1, nil, api.Block{Slot: 2, Miner: 1})
	takes(t, c, on(0, 1), n(1))
	if !slices.Equal(draws, before) {
		t.Error("the draws are changed:", draws)
	}
	draws[1], draws[2] = 1, 0
	makesNone(t, c, "the draws of then", 0)
	makes(t, c, 1, nil, api.Block{Slot: 2, Miner: 1, Parent: n(1)})
	refuses(t, c, "the draws of then", on(n(1), 2))
	takes(t, c, api.Block{Slot: 2, Miner: 1}, of(2, 1))
	c.Next(3)
	makes(t, c, 0, nil, on(n(1), 3))
}

// TestTakenIsNotKept: a block's transactions may be written over behind Take, whether it is known, waits or is refused.
func TestTakenIsNotKept(t *testing.T) {
	c := at(9, 0)
	whole := []api.Tx{{ID: 1, Fee: 5}, {ID: 2, Fee: 4}, {ID: 3, Fee: 3}, {ID: 4}}
	before := slices.Clone(whole)
	c.Take(api.Block{Slot: 1, Txs: whole[:2]})
	c.Take(api.Block{Slot: 3, Parent: n(2), Txs: whole[1:3]})
	c.Take(api.Block{Slot: 1, Txs: whole[2:3]})
	if !slices.Equal(whole, before) {
		t.Error("what was handed in is changed:", whole)
	}
	clear(whole)
	takes(t, c, on(n(1), 2), n(2), n(3))
	if got := c.Txs(n(3)); !slices.Equal(got, []int{1, 2, 2, 3}) {
		t.Error("what is known hangs on what was handed in:", got)
	}
}

// TestMadeIsNewMemory: it shares none with the transactions handed in, with another answer, or with the tree that takes it.
func TestMadeIsNewMemory(t *testing.T) {
	c := at(3, 0)
	takes(t, c, on(0, 1, 7), n(1))
	for _, many := range []int{0, 1, 2, 3, 5} {
		whole := []api.Tx{{ID: 1, Fee: 5}, {ID: 2, Fee: 4}, {ID: 3, Fee: 3}, {ID: 4}, {ID: 5}, {ID: 6}}
		before := slices.Clone(whole)
		one, _ := c.Make(0, whole[:many])
		two, _ := c.Make(0, whole[:many])
		clear(one.Txs[:cap(one.Txs)])
		if want := on(n(1), 3); !slices.Equal(whole, before) || two.Parent != want.Parent || !slices.Equal(two.Txs, before[:min(many, 3)]) {
			t.Errorf("of %d: %v and %v hang on another answer", many, whole, two)
		}
		clear(whole)
		if !slices.Equal(two.Txs, before[:min(many, 3)]) {
			t.Errorf("of %d: %v hangs on what was handed in", many, two)
		}
	}
	made, _ := c.Make(0, []api.Tx{{ID: 8}, {ID: 9}})
	want := block.Copy(made)
	takes(t, c, made, n(3))
	clear(made.Txs[:cap(made.Txs)])
	if got, ok := c.Tree().Get(n(3)); !ok || !block.Same(got, want) {
		t.Error("what is known hangs on what was made:", got)
	}
}

// TestListsAreNewMemory: those that Take and Txs answer.
func TestListsAreNewMemory(t *testing.T) {
	c := at(9, 0)
	takes(t, c, on(n(1), 2, 6, 5))
	known, _ := c.Take(on(0, 1, 4))
	before := lookAt(c)
	for _, l := range [][]int{known, c.Txs(n(2)), c.Txs(n(1)), c.Txs(0)} {
		kept := c.Txs(n(2))
		l = l[:cap(l)]
		for i := range l {
			l[i] = -99
		}
		if now := lookAt(c); !now.same(before) || !slices.Equal(kept, []int{4, 6, 5}) {
			t.Errorf("%v was %v, or %v hangs on another answer", now, before, kept)
		}
	}
}

// TestTwoChains: nothing of one is in another.
func TestTwoChains(t *testing.T) {
	draws := []int{1, 1, 1}
	one, two := New(draws, 0), New(draws, 1)
	one.Next(3)
	takes(t, one, on(0, 1, 5), n(1))
	takes(t, one, on(n(2), 3))
	if l := lookAt(two); !l.same(look{}) || one.Tree() == two.Tree() {
		t.Error("the other one has it too:", l)
	}
	two.Next(2)
	takes(t, two, on(0, 2), n(2))
	if l := lookAt(one); !l.same(look{slot: 3, tip: n(1), confirmed: n(1), names: []int{n(1)}, waiting: []int{n(3)}, missing: []int{n(2)}, txs: []int{5}}) {
		t.Error("the other one has it too:", l)
	}
}
