package chain

import (
	"math"
	"slices"
	"testing"

	"neaptide/api"
)

// TestTakeOfASlot: a block of a slot to come isn't taken ahead of it.
func TestTakeOfASlot(t *testing.T) {
	c := at(0, 0)
	for slot := 1; slot <= 200; slot++ {
		b := on(n(slot-1), slot)
		refuses(t, c, "a slot ahead of its time", b)
		c.Next(slot)
		takes(t, c, b, n(slot))
	}
	c.Next(4095)
	refuses(t, c, "nobody wins in slot 201", on(n(200), 201))
	// A slot that is long past is none to come.
	takes(t, c, api.Block{Slot: 1, Miner: 3}, of(1, 3))
}

// TestTakeOfAWinner: only who wins in its own slot, whoever wins in others.
func TestTakeOfAWinner(t *testing.T) {
	draws := []int{1, 6, 0, 64, 127}
	for slot, draw := range append(draws, 0) {
		slot++
		for miner, bit := range []int{1, 2, 4, 8, 16, 32, 64} {
			c := New(draws, 0)
			c.Next(5)
			b := api.Block{Slot: slot, Miner: miner, Variant: slot + miner}
			if draw&bit == 0 {
				refuses(t, c, "who doesn't win", b)
				continue
			}
			takes(t, c, b, of(slot, miner)+slot+miner)
		}
	}
}

func TestTakeOfWhatCantBe(t *testing.T) {
	c := at(200, 0)
	takes(t, c, on(0, 1, 4), n(1))
	takes(t, c, on(n(8), 9, 4))
	for name, b := range map[string]api.Block{
		"nothing":                 {},
		"slot 0":                  {Miner: 1},
		"a slot below":            {Slot: -1},
		"the least slot":          {Slot: math.MinInt},
		"the greatest slot":       {Slot: math.MaxInt},
		"slot 201":                {Slot: 201},
		"slot 4096":               {Slot: 4096},
		"node 7":                  {Slot: 2, Miner: 7},
		"a node below":            {Slot: 2, Miner: -1},
		"the least node":          {Slot: 2, Miner: math.MinInt},
		"the greatest node":       {Slot: 2, Miner: math.MaxInt},
		"node 64":                 {Slot: 2, Miner: 64},
		"variant 256":             {Slot: 2, Variant: 256},
		"a variant below":         {Slot: 2, Variant: -1},
		"on itself":               {Slot: 2, Parent: n(2)},
		"on another of its slot":  {Slot: 2, Parent: of(2, 1)},
		"on one behind it":        {Slot: 2, Parent: n(3)},
		"on what has no slot":     {Slot: 2, Parent: 255},
		"on what is below":        {Slot: 2, Parent: -n(1)},
		"on what is no name":      {Slot: 2, Parent: of(1, 7)},
		"four transactions":       on(n(1), 2, 1, 2, 3, 4),
		"a transaction twice":     on(n(1), 2, 1, 1),
		"a transaction without":   on(n(1), 2, 0),
		"a transaction too great": on(n(1), 2, 1000001),
		"a fee too great":         {Slot: 2, Parent: n(1), Txs: []api.Tx{{ID: 1, Fee: 1001}}},
		"known already":           on(0, 1, 4),
		"known, and otherwise":    on(0, 1, 5),
		"waits already":           on(n(8), 9, 4),
		"waits, and otherwise":    on(n(1), 9, 5),
	} {
		refuses(t, c, name, b)
	}
	takes(t, c, on(n(1), 8), n(8), n(9))
	refuses(t, c, "known by another", on(n(8), 9, 4))
}

// TestTakeOfTheSame: transactions that the way has already are no reason to refuse a block.
func TestTakeOfTheSame(t *testing.T) {
	c := at(3, 0)
	takes(t, c, on(0, 1, 7, 4), n(1))
	takes(t, c, on(n(1), 2, 7), n(2))
	takes(t, c, on(n(2), 3, 4, 7), n(3))
	if got := c.Txs(n(3)); !slices.Equal(got, []int{7, 4, 7, 4, 7}) {
		t.Error(got)
	}
}

// TestTakeOfWaiting: what waits is taken, and answered when it is known.
func TestTakeOfWaiting(t *testing.T) {
	c := at(9, 0)
	takes(t, c, on(n(3), 5))
	takes(t, c, on(n(2), 3))
	takes(t, c, on(n(3), 4))
	if l := lookAt(c); !l.same(look{slot: 9, waiting: []int{n(5), n(3), n(4)}, missing: []int{n(2)}}) {
		t.Error(l)
	}
	takes(t, c, on(0, 2), n(2), n(3), n(5), n(4))
	// What it stands on needn't win: it waits for it.
	c = New([]int{0, 1}, 0)
	c.Next(2)
	takes(t, c, on(n(1), 2))
	refuses(t, c, "nobody wins in slot 1", on(0, 1))
}

// TestTakeOfFull: there is room for 400, and for none more.
func TestTakeOfFull(t *testing.T) {
	c := at(200, 0)
	for i := range 400 {
		b := api.Block{Slot: 1 + i/2, Miner: i % 2}
		takes(t, c, b, of(b.Slot, b.Miner))
	}
	refuses(t, c, "a 401st", api.Block{Slot: 1, Miner: 2})
	takes(t, c, api.Block{Slot: 7, Miner: 3, Parent: of(3, 5)})
	refuses(t, c, "a 401st that another waits for", api.Block{Slot: 3, Miner: 5})
	if l := c.Tree().Waiting(); !slices.Equal(l, []int{of(7, 3)}) {
		t.Error("waiting:", l)
	}
}
