package chain

import (
	"math"
	"slices"
	"testing"

	"neaptide/api"
	"neaptide/block"
)

// makes tells it, if a chain makes another block than this one, or if anything changes by it.
func makes(t *testing.T, c *Chain, me int, txs []api.Tx, want api.Block) {
	t.Helper()
	before := lookAt(c)
	if got, ok := c.Make(me, txs); !ok || !block.Same(got, want) {
		t.Errorf("Make(%d, %v): %v %t, not %v", me, txs, got, ok, want)
	}
	if now := lookAt(c); !now.same(before) {
		t.Errorf("Make(%d, %v): %v was %v", me, txs, now, before)
	}
}

// makesNone tells it, if a chain makes a block, or if anything changes by it.
func makesNone(t *testing.T, c *Chain, name string, me int, txs ...api.Tx) {
	t.Helper()
	before := lookAt(c)
	if got, ok := c.Make(me, txs); ok || !block.Same(got, api.Block{}) {
		t.Errorf("%s: Make(%d, %v): %v %t", name, me, txs, got, ok)
	}
	if now := lookAt(c); !now.same(before) {
		t.Errorf("%s: Make(%d, %v): %v was %v", name, me, txs, now, before)
	}
}

func TestMake(t *testing.T) {
	c := New([]int{1, 6, 0, 2, 64}, 0)
	makesNone(t, c, "slot 0", 0)
	c.Next(1)
	makes(t, c, 0, nil, api.Block{Slot: 1})
	makes(t, c, 0, nil, api.Block{Slot: 1})
	makesNone(t, c, "who wins in slot 2", 1)
	takes(t, c, on(0, 1, 4), n(1))
	makesNone(t, c, "it is made already", 0)
	c.Next(2)
	makesNone(t, c, "who won in slot 1", 0)
	makes(t, c, 1, []api.Tx{{ID: 9, Fee: 1}}, api.Block{Slot: 2, Miner: 1, Parent: n(1), Txs: []api.Tx{{ID: 9, Fee: 1}}})
	makes(t, c, 2, nil, api.Block{Slot: 2, Miner: 2, Parent: n(1)})
	c.Next(3)
	for me := range 7 {
		makesNone(t, c, "nobody wins", me)
	}
	c.Next(5)
	makesNone(t, c, "who won in slot 4", 1)
	makes(t, c, 6, nil, api.Block{Slot: 5, Miner: 6, Parent: n(1)})
	c.Next(6)
	for me := range 7 {
		makesNone(t, c, "behind the last slot", me)
	}
}

func TestMakeOfWhoIsNone(t *testing.T) {
	c := at(1, 0)
	for _, me := range append([]int{7, 8, 63, 64, 65}, far...) {
		makesNone(t, c, "no node", me)
	}
	for _, slot := range []int{201, 4095, 4096, 65536, 1 << 32, 1<<32 + 1, math.MaxInt} {
		c.Next(slot)
		for _, me := range append([]int{0, 6}, far...) {
			makesNone(t, c, "no slot", me)
		}
	}
}

// TestMakeOnTheWay: not if the way to the tip has a block of the slot or of a later one; blocks beside it count for nothing.
func TestMakeOnTheWay(t *testing.T) {
	c := at(4, 0)
	takes(t, c, on(0, 1), n(1))
	takes(t, c, on(0, 4), n(4))
	makes(t, c, 0, nil, on(n(1), 4))
	makes(t, c, 3, nil, api.Block{Slot: 4, Miner: 3, Parent: n(1)})
	takes(t, c, on(n(1), 3), n(3))
	makes(t, c, 5, nil, api.Block{Slot: 4, Miner: 5, Parent: n(3)})
	takes(t, c, api.Block{Slot: 4, Miner: 5, Parent: n(3)}, of(4, 5))
	makesNone(t, c, "the tip is of the slot", 5)
	makesNone(t, c, "another's tip is of the slot", 0)
	c.Next(5)
	makes(t, c, 0, nil, on(of(4, 5), 5))
	// The tree itself takes what is to come.
	c.Tree().Add(on(of(4, 5), 9))
	makesNone(t, c, "the tip is of a later slot", 0)
	c.Next(8)
	makesNone(t, c, "the tip is of the next slot", 0)
	c.Next(9)
	makesNone(t, c, "the tip is of the slot by now", 0)
	c.Next(10)
	makes(t, c, 0, nil, on(n(9), 10))
}

// TestMakeOnTheTip: on the highest one, of these the least name, and not on what waits.
func TestMakeOnTheTip(t *testing.T) {
	c := at(9, 0)
	takes(t, c, on(n(5), 6))
	makes(t, c, 0, nil, on(0, 9))
	takes(t, c, on(0, 3, 1), n(3))
	takes(t, c, on(0, 2, 2), n(2))
	makes(t, c, 0, []api.Tx{{ID: 1}, {ID: 2}}, api.Block{Slot: 9, Parent: n(2), Txs: []api.Tx{{ID: 1}}})
	takes(t, c, on(n(3), 4, 3), n(4))
	makes(t, c, 0, []api.Tx{{ID: 1}, {ID: 2}, {ID: 3}}, api.Block{Slot: 9, Parent: n(4), Txs: []api.Tx{{ID: 2}}})
}

func TestMakeOfTxs(t *testing.T) {
	x := func(ids ...int) []api.Tx { return on(0, 1, ids...).Txs }
	for name, s := range map[string]struct{ txs, want []api.Tx }{
		"none":                      {nil, nil},
		"one":                       {x(9), x(9)},
		"three":                     {x(9, 8, 7), x(9, 8, 7)},
		"four":                      {x(6, 9, 8, 7), x(6, 9, 8)},
		"many":                      {x(16, 15, 14, 13, 12, 11, 10, 9, 8), x(16, 15, 14)},
		"not by fees":               {[]api.Tx{{ID: 9}, {ID: 8, Fee: 1000}}, []api.Tx{{ID: 9}, {ID: 8, Fee: 1000}}},
		"the edges":                 {[]api.Tx{{ID: 1000000, Fee: 1000}, {ID: 6}}, []api.Tx{{ID: 1000000, Fee: 1000}, {ID: 6}}},
		"all on the way":            {x(1, 2, 3, 4, 3, 2, 1), nil},
		"on the way, first":         {x(1, 9), x(9)},
		"on the way, last":          {x(9, 8, 4), x(9, 8)},
		"on the way, between":       {x(9, 2, 8, 3, 7, 6), x(9, 8, 7)},
		"on the way, another fee":   {[]api.Tx{{ID: 2, Fee: 999}, {ID: 9}}, []api.Tx{{ID: 9}}},
		"on another way":            {x(5, 1), x(5)},
		"what can't be isn't asked": {[]api.Tx{{ID: 9}, {ID: 8}, {ID: 7}, {ID: -1}}, []api.Tx{{ID: 9}, {ID: 8}, {ID: 7}}},
		"twice behind the third":    {x(9, 8, 7, 9), x(9, 8, 7)},
	} {
		c := at(9, 0)
		takes(t, c, on(0, 1, 1, 2), n(1))
		takes(t, c, on(n(1), 2, 3), n(2))
		takes(t, c, on(n(2), 3, 4, 1), n(3))
		takes(t, c, on(n(1), 4, 5), n(4))
		got, ok := c.Make(0, s.txs)
		if want := (api.Block{Slot: 9, Parent: n(3), Txs: s.want}); !ok || !block.Same(got, want) {
			t.Errorf("%s: %v %t, not %v", name, got, ok, want)
		}
	}
}

// TestMakeOfWhatCantBe: the first three are taken as they are, and if the block can't be with them, there is none.
func TestMakeOfWhatCantBe(t *testing.T) {
	c := at(2, 0)
	takes(t, c, on(0, 1, 1, 2), n(1))
	for name, txs := range map[string][]api.Tx{
		"twice":              {{ID: 9}, {ID: 9}},
		"twice, other fees":  {{ID: 9}, {ID: 8}, {ID: 9, Fee: 1}},
		"ID 0":               {{Fee: 3}},
		"an ID below":        {{ID: 9}, {ID: 8}, {ID: -1}},
		"an ID above":        {{ID: 1000001}, {ID: 8}},
		"a fee below":        {{ID: 9, Fee: -1}},
		"a fee above":        {{ID: 9, Fee: 1001}},
		"the least ID":       {{ID: math.MinInt}},
		"the greatest ID":    {{ID: math.MaxInt}},
		"behind known ones":  {{ID: 1}, {ID: 2}, {ID: 1}, {ID: 2}, {ID: 0}},
		"an ID of 32 bits":   {{ID: 1<<32 + 1}},
		"the greatest fee":   {{ID: 9, Fee: math.MaxInt}},
		"four, the third is": {{ID: 9}, {ID: 8}, {ID: 0}, {ID: 7}},
	} {
		makesNone(t, c, name, 0, txs...)
	}
}

// TestMakeOfFull: a block is made though the tree has no room for it.
func TestMakeOfFull(t *testing.T) {
	c := at(200, 0)
	for i := range 400 {
		c.Tree().Add(api.Block{Slot: 1 + i/7, Miner: i % 7})
	}
	makes(t, c, 0, nil, on(n(1), 200))
	refuses(t, c, "no room", on(n(1), 200))
}

// TestMadeIsTaken: what is made is taken by the next call, and by any chain of the same draws.
func TestMadeIsTaken(t *testing.T) {
	one, two := at(0, 3), at(0, 3)
	for slot := 1; slot <= 200; slot++ {
		one.Next(slot)
		two.Next(slot)
		// But for slot 1, the block ahead has the first of these already.
		b, ok := one.Make(slot%7, []api.Tx{{ID: slot}, {ID: slot + 1}})
		if !ok {
			t.Fatal("none is made in slot", slot)
		}
		takes(t, one, b, of(slot, slot%7))
		takes(t, two, b, of(slot, slot%7))
	}
	var want []int
	for id := 1; id <= 201; id++ {
		want = append(want, id)
	}
	if got := two.Txs(of(200, 200%7)); !slices.Equal(got, want) {
		t.Error(got)
	}
	if one.Confirmed() != of(197, 197%7) || two.Confirmed() != one.Confirmed() {
		t.Error(one.Confirmed(), two.Confirmed())
	}
}

// TestMadeHasItsName: what is made can be, and has the name of its slot and of who made it.
func TestMadeHasItsName(t *testing.T) {
	for miner := range 7 {
		c := at(200, 0)
		b, ok := c.Make(miner, nil)
		if !ok || !block.Right(b) || block.Name(b) != of(200, miner) {
			t.Errorf("node %d: %v %t", miner, b, ok)
		}
	}
}
