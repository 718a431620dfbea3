package block

import (
	"math"
	"slices"
	"testing"

	"neaptide/api"
)

// unlike answers blocks of which no two are the same, whether they can be or not.
func unlike() []api.Block {
	good := api.Block{Slot: 3, Miner: 1, Variant: 2, Parent: nameOf(2, 6, 255), Txs: []api.Tx{{ID: 7, Fee: 1}, {ID: 6, Fee: 2}}}
	l := []api.Block{good, {}}
	for _, n := range []int{math.MinInt, -1, 4, 4095, 1<<32 + 3, math.MaxInt} {
		l = append(l, with(good, func(b *api.Block) { b.Slot = n }), with(good, func(b *api.Block) { b.Miner = n }))
		l = append(l, with(good, func(b *api.Block) { b.Variant = n }), with(good, func(b *api.Block) { b.Parent = n }))
	}
	for _, txs := range [][]api.Tx{
		nil, {{}}, {{ID: 7, Fee: 1}}, {{ID: 6, Fee: 2}, {ID: 7, Fee: 1}}, {{ID: 7, Fee: 1}, {ID: 6, Fee: 3}}, {{ID: 7, Fee: 1}, {ID: 5, Fee: 2}},
		{{ID: 8, Fee: 1}, {ID: 6, Fee: 2}}, {{ID: 7, Fee: 0}, {ID: 6, Fee: 2}}, {{ID: 7, Fee: 1}, {ID: 6, Fee: 2}, {}},
		{{ID: 7, Fee: 1}, {ID: 6, Fee: 2}, {ID: 5, Fee: 3}}, {{ID: 1<<32 + 7, Fee: 1}, {ID: 6, Fee: 2}}, {{ID: 1, Fee: 7}, {ID: 2, Fee: 6}},
		make([]api.Tx, 1<<20),
	} {
		l = append(l, with(good, func(b *api.Block) { b.Txs = txs }))
	}
	return l
}

func TestSame(t *testing.T) {
	blocks := unlike()
	for i, a := range blocks {
		for j, b := range blocks {
			b.Txs = slices.Clone(b.Txs)
			if Same(a, b) != (i == j) {
				t.Errorf("Same(%v, %v) isn't %t", show(a), show(b), i == j)
			}
		}
	}
}

// TestSameOfNone: a list may be nil or empty, and the two are one.
func TestSameOfNone(t *testing.T) {
	a, b := api.Block{Slot: 1}, api.Block{Slot: 1, Txs: []api.Tx{}}
	spare := api.Block{Slot: 1, Txs: []api.Tx{{ID: 1}, {ID: 2}}[:0]}
	if !Same(a, b) || !Same(b, a) || !Same(a, spare) || !Same(spare, b) {
		t.Error("no transactions aren't the same as none")
	}
}

func TestCopy(t *testing.T) {
	for _, b := range slices.Concat(unlike(), rightBlocks(), wrongBlocks()) {
		c := Copy(b)
		if c.Slot != b.Slot || c.Miner != b.Miner || c.Variant != b.Variant || c.Parent != b.Parent || !slices.Equal(c.Txs, b.Txs) {
			t.Errorf("of %v: %v", show(b), show(c))
		}
		if !Same(b, c) {
			t.Errorf("%v isn't the same as its copy", show(b))
		}
	}
}

func TestCopySharesNothing(t *testing.T) {
	whole := []api.Tx{{ID: 9, Fee: 1}, {ID: 8, Fee: 2}, {ID: 7, Fee: 3}, {ID: 6, Fee: 4}}
	before := slices.Clone(whole)
	for many := range 4 {
		b := api.Block{Slot: 3, Txs: whole[:many]}
		one, two := Copy(b), Copy(b)
		clear(one.Txs[:cap(one.Txs)])
		_ = append(one.Txs, api.Tx{ID: 5})
		if !slices.Equal(whole, before) || !slices.Equal(two.Txs, before[:many]) {
			t.Error("a copy of", many, "hangs on another:", whole, two)
		}
		clear(whole)
		if !slices.Equal(two.Txs, before[:many]) {
			t.Error("a copy of", many, "hangs on what was handed in:", two)
		}
		copy(whole, before)
	}
}
