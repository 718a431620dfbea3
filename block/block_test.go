package block

import (
	"math"
	"slices"
	"testing"

	"neaptide/api"
)

// extremes are numbers far beyond any bound, and such as would be within one if their high bits were lost.
var extremes = []int{
	math.MinInt, math.MinInt + 1, -1 << 62, -1<<32 + 1, -1 << 32, -1 << 31, -1 << 16,
	1 << 31, 1<<31 + 1, 1 << 32, 1<<32 + 1, 1<<32 + 2, 1 << 62, 1<<62 + 1, math.MaxInt - 1, math.MaxInt,
}

// right and wrong numbers, the least and the greatest among them.
var (
	rightSlots    = []int{1, 2, 3, 126, 127, 128, 255, 256, 257, 4094, 4095}
	rightMiners   = []int{0, 1, 2, 3, 4, 5, 6}
	rightVariants = []int{0, 1, 2, 126, 127, 128, 254, 255}
	wrongSlots    = append([]int{0, -1, -2, -4095, 4096, 4097, 8191, 65536, 65537}, extremes...)
	wrongMiners   = append([]int{-1, -2, -6, 7, 8, 255, 256, 257, 65536}, extremes...)
	wrongVariants = append([]int{-1, -2, -255, 256, 257, 511, 65535, 65536}, extremes...)
)

// rightTxs and wrongTxs are lists that layer 6 has, and such as it hasn't.
var (
	rightTxs = [][]api.Tx{
		nil, {}, {{ID: 1}}, {{ID: 1000000, Fee: 1000}}, {{ID: 7, Fee: 1}, {ID: 6, Fee: 1}},
		{{ID: 3, Fee: 2}, {ID: 1, Fee: 2}, {ID: 2, Fee: 9}},
	}
	wrongTxs = [][]api.Tx{
		{{}}, {{ID: -1}}, {{ID: 1000001}}, {{ID: 1, Fee: -1}}, {{ID: 1, Fee: 1001}}, {{ID: math.MinInt, Fee: math.MaxInt}},
		{{ID: 5}, {}}, {{ID: 5}, {ID: 6}, {ID: 1, Fee: 1001}},
		// Two of one ID.
		{{ID: 5}, {ID: 5}}, {{ID: 5, Fee: 1}, {ID: 5, Fee: 2}}, {{ID: 5}, {ID: 6}, {ID: 5}},
		// Too many.
		{{ID: 1}, {ID: 2}, {ID: 3}, {ID: 4}}, make([]api.Tx, 1<<20),
	}
)

// nameOf answers the name of these numbers, put together from bytes.
func nameOf(slot, miner, variant int) int { return slot<<16 | miner<<8 | variant }

// isName tells, byte by byte, whether a number is the name of a block.
func isName(n int) bool { return n>>16 >= 1 && n>>16 <= 4095 && n>>8&255 <= 6 }

// wantName tells it, if Slot or Miner answers something else of a number than its bytes do.
func wantName(t *testing.T, n int) {
	t.Helper()
	slot, miner := 0, 0
	if isName(n) {
		slot, miner = n>>16, n>>8&255
	}
	if Slot(n) != slot || Miner(n) != miner {
		t.Fatalf("of %d: slot %d, miner %d, not %d and %d", n, Slot(n), Miner(n), slot, miner)
	}
}

// parentsOf answers what a block of a slot can stand on.
func parentsOf(slot int) []int {
	l := []int{0}
	for _, below := range []int{1, 2, slot / 2, slot - 2, slot - 1} {
		if below >= 1 && below < slot {
			l = append(l, nameOf(below, 0, 0), nameOf(below, 6, 255), nameOf(below, 3, 128), nameOf(below, 0, 255), nameOf(below, 6, 0))
		}
	}
	return l
}

// notParentsOf answers what a block of a slot can't stand on.
func notParentsOf(slot int) []int {
	l := []int{
		// Its own slot, and those behind it.
		nameOf(slot, 0, 0), nameOf(slot, 0, 1), nameOf(slot, 6, 255), nameOf(slot+1, 0, 0), nameOf(slot+1, 6, 255), nameOf(4095, 6, 255),
		// No names: slots, miners.
		1, 2, 255, 256, 6*256 + 255, 65535, nameOf(4096, 0, 0), nameOf(8191, 2, 1), -1, -65536, -65537, -nameOf(1, 0, 0) + 1,
		nameOf(1, 7, 0), nameOf(1, 7, 255), nameOf(1, 255, 0), nameOf(1, 255, 255),
		// A name, if the high bits were lost.
		1<<28 + nameOf(1, 0, 0), 1<<32 + nameOf(1, 0, 0), 1<<62 + nameOf(1, 0, 0), math.MinInt + nameOf(1, 0, 0), -1<<32 + nameOf(1, 0, 0),
	}
	if slot > 1 {
		l = append(l, nameOf(slot-1, 7, 0), nameOf(slot-1, 255, 255), -nameOf(slot-1, 0, 0))
	}
	return append(l, extremes...)
}

// rightBlocks answers blocks that can be.
func rightBlocks() []api.Block {
	var l []api.Block
	for _, slot := range rightSlots {
		for _, miner := range rightMiners {
			for _, variant := range rightVariants {
				l = append(l, api.Block{Slot: slot, Miner: miner, Variant: variant, Txs: rightTxs[len(l)%len(rightTxs)]})
			}
		}
		for _, parent := range parentsOf(slot) {
			for _, txs := range rightTxs {
				l = append(l, api.Block{Slot: slot, Miner: parent % 7, Variant: parent % 256, Parent: parent, Txs: txs})
			}
		}
	}
	return l
}

// wrongBlocks answers blocks that can't be, most for one reason alone.
func wrongBlocks() []api.Block {
	good := api.Block{Slot: 3, Miner: 1, Variant: 2, Parent: nameOf(2, 6, 255), Txs: []api.Tx{{ID: 7, Fee: 1}}}
	l := []api.Block{{}, {Slot: -1, Miner: -1, Variant: -1, Parent: -1, Txs: wrongTxs[0]}}
	for _, n := range wrongSlots {
		l = append(l, with(good, func(b *api.Block) { b.Slot = n }), with(good, func(b *api.Block) { b.Slot, b.Parent = n, 0 }))
	}
	for _, n := range wrongMiners {
		l = append(l, with(good, func(b *api.Block) { b.Miner = n }))
	}
	for _, n := range wrongVariants {
		l = append(l, with(good, func(b *api.Block) { b.Variant = n }))
	}
	for _, txs := range wrongTxs {
		l = append(l, with(good, func(b *api.Block) { b.Txs = txs }), api.Block{Slot: 1, Txs: txs})
	}
	for _, slot := range rightSlots {
		for _, n := range notParentsOf(slot) {
			l = append(l, with(good, func(b *api.Block) { b.Slot, b.Parent = slot, n }))
		}
	}
	return l
}

// with answers a block of which something is another way.
func with(b api.Block, change func(*api.Block)) api.Block {
	change(&b)
	return b
}

// show answers a block of which no list is too long to be told.
func show(b api.Block) api.Block {
	b.Txs = b.Txs[:min(len(b.Txs), 5)]
	return b
}

func TestRight(t *testing.T) {
	for _, b := range rightBlocks() {
		if !Right(b) {
			t.Errorf("%v isn't right", b)
		}
	}
	for _, b := range wrongBlocks() {
		if Right(b) {
			t.Errorf("%v is right", show(b))
		}
	}
}

// TestRightParents: of all numbers round the names, just 0 and names of a lesser slot can be stood on.
func TestRightParents(t *testing.T) {
	for _, slot := range []int{1, 2, 3, 4} {
		for parent := -70000; parent < 6*65536; parent++ {
			want := parent == 0 || isName(parent) && parent>>16 < slot
			if Right(api.Block{Slot: slot, Parent: parent}) != want {
				t.Fatalf("slot %d on %d: right isn't %t", slot, parent, want)
			}
		}
	}
	for below := range 4097 {
		b := api.Block{Slot: 4095, Parent: nameOf(below, 6, 255)}
		if want := below >= 1 && below < 4095; Right(b) != want {
			t.Errorf("%v: right isn't %t", b, want)
		}
	}
}

func TestName(t *testing.T) {
	if n := Name(api.Block{Slot: 1, Miner: 2, Variant: 3}); n != 66051 {
		t.Error("slot 1, miner 2, variant 3:", n)
	}
	for _, b := range rightBlocks() {
		n := Name(b)
		if n != nameOf(b.Slot, b.Miner, b.Variant) || Slot(n) != b.Slot || Miner(n) != b.Miner {
			t.Errorf("%v: name %d, of slot %d and miner %d", b, n, Slot(n), Miner(n))
		}
	}
	for _, b := range wrongBlocks() {
		if n := Name(b); n != 0 {
			t.Errorf("%v: name %d", show(b), n)
		}
	}
}

func TestSlotAndMiner(t *testing.T) {
	for _, c := range []struct{ name, slot, miner int }{
		{66051, 1, 2},
		{0, 0, 0}, {1, 0, 0}, {65535, 0, 0}, {-1, 0, 0}, {-66051, 0, 0}, {515, 0, 0},
		{65536, 1, 0}, {65536 + 255, 1, 0}, {65536 + 256, 1, 1}, {65536 + 6*256 + 255, 1, 6}, {65536 + 7*256, 0, 0}, {2*65536 - 1, 0, 0}, {2 * 65536, 2, 0},
		{4095 * 65536, 4095, 0}, {4095*65536 + 6*256 + 255, 4095, 6}, {4095*65536 + 7*256, 0, 0}, {4096*65536 - 1, 0, 0}, {4096 * 65536, 0, 0},
	} {
		if Slot(c.name) != c.slot || Miner(c.name) != c.miner {
			t.Errorf("of %d: slot %d, miner %d", c.name, Slot(c.name), Miner(c.name))
		}
	}
	for n := -3 * 65536; n < 5*65536; n++ {
		wantName(t, n)
		wantName(t, 4093*65536+n)
	}
	for slot := -2; slot < 4100; slot++ {
		for _, low := range []int{0, 1, 255, 256, 511, 512, 1535, 1536, 1791, 1792, 2047, 65280, 65535} {
			wantName(t, slot*65536+low)
		}
	}
	for _, n := range extremes {
		for _, low := range []int{0, 1, 66051, nameOf(1, 0, 0), nameOf(4095, 6, 255)} {
			wantName(t, n+low)
			wantName(t, n-low)
		}
	}
}

// TestOneName: two that are right have one name just if their slot, miner and variant are the same.
func TestOneName(t *testing.T) {
	type key struct{ slot, miner, variant int }
	names := map[int]key{}
	keys := map[key]int{}
	blocks := rightBlocks()
	for _, slot := range []int{1, 2, 256, 257, 4095} {
		for miner := range 7 {
			for variant := range 256 {
				blocks = append(blocks, api.Block{Slot: slot, Miner: miner, Variant: variant})
			}
		}
	}
	for _, b := range blocks {
		k, n := key{b.Slot, b.Miner, b.Variant}, Name(b)
		if of, known := names[n]; n == 0 || known && of != k {
			t.Errorf("%v has the name %d, as has %v", b, n, of)
		}
		if of, known := keys[k]; known && of != n {
			t.Errorf("%v has the name %d, and %d", b, n, of)
		}
		names[n], keys[k] = k, n
	}
}

func TestNothingIsChanged(t *testing.T) {
	whole := []api.Tx{{ID: 9, Fee: 1}, {ID: 8, Fee: 2}, {ID: 7, Fee: 3}, {ID: 9, Fee: 4}}
	before := slices.Clone(whole)
	b := api.Block{Slot: 3, Miner: 1, Variant: 2, Parent: 65536, Txs: whole[:2]}
	Right(b)
	Name(b)
	Same(b, b)
	c := Copy(b)
	_ = append(c.Txs, api.Tx{ID: 5})
	bytes, _ := Bytes(b)
	scribble(bytes)
	if !slices.Equal(whole, before) {
		t.Error("what was handed in is changed:", whole)
	}
}

// scribble writes over all of b's memory, spare room included.
func scribble(b []byte) {
	b = b[:cap(b)]
	for i := range b {
		b[i] = 99
	}
}
