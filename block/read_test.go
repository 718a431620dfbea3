package block

import (
	"bytes"
	"math"
	"slices"
	"testing"

	"neaptide/api"
)

// loose answers the numbers of bytes in whatever form, and forgets what doesn't end: who asks holds their form against the bytes then.
func loose(b []byte) []int {
	var nums []int
	n, shift := 0, 0
	for _, c := range b {
		n |= int(c&127) << shift
		shift += 7
		if c < 128 {
			nums = append(nums, n-1)
			n, shift = 0, 0
		}
	}
	return nums
}

// canBe tells, by the numbers alone, whether a block can be.
func canBe(b api.Block) bool {
	if b.Slot < 1 || b.Slot > 4095 || b.Miner < 0 || b.Miner > 6 || b.Variant < 0 || b.Variant > 255 {
		return false
	}
	if b.Parent != 0 && (!isName(b.Parent) || b.Parent>>16 >= b.Slot) {
		return false
	}
	ids := map[int]bool{}
	for _, x := range b.Txs {
		if x.ID < 1 || x.ID > 1000000 || x.Fee < 0 || x.Fee > 1000 {
			return false
		}
		ids[x.ID] = true
	}
	return len(b.Txs) <= 3 && len(ids) == len(b.Txs)
}

// wanted answers the block that Read is to find.
func wanted(b []byte) (api.Block, api.Errno) {
	nums := loose(b)
	if len(nums) < 5 || len(nums)%2 != 1 || nums[4] != len(nums)/2-2 {
		return api.Block{}, api.ErrBlock
	}
	x := api.Block{Slot: nums[0], Miner: nums[1], Variant: nums[2], Parent: nums[3]}
	for i := 5; i < len(nums); i += 2 {
		x.Txs = append(x.Txs, api.Tx{ID: nums[i], Fee: nums[i+1]})
	}
	if !canBe(x) || !bytes.Equal(form(x), b) {
		return api.Block{}, api.ErrBlock
	}
	return x, api.OK
}

// reads tells it, if Read finds something else than is to be found, and answers whether something is.
func reads(t *testing.T, b []byte) bool {
	t.Helper()
	want, err := wanted(b)
	if x, e := Read(b); !Same(x, want) || e != err {
		t.Errorf("Read(%v): %v %d, not %v %d", b, x, e, want, err)
	}
	return err == api.OK
}

func TestReadFindsBytes(t *testing.T) {
	for _, x := range rightBlocks() {
		b, e := Bytes(x)
		if e != api.OK {
			t.Fatalf("Bytes(%v): %d", x, e)
		}
		if got, e := Read(b); !Same(got, x) || e != api.OK {
			t.Errorf("Read of %v: %v %d", x, got, e)
		}
	}
}

func TestReadRefuses(t *testing.T) {
	no := [][]byte{
		nil, {}, {2}, {2, 1}, {2, 1, 1}, {2, 1, 1, 1}, {128}, {2, 1, 1, 1, 129},
		// Something behind it.
		{2, 1, 1, 1, 1, 0}, {2, 1, 1, 1, 1, 1}, {2, 1, 1, 1, 1, 128}, {2, 1, 1, 1, 1, 2, 1, 1, 1, 1}, {2, 1, 1, 1, 2, 2, 6, 7},
		// More groups than needed.
		{130, 0, 1, 1, 1, 1}, {2, 129, 0, 1, 1, 1}, {2, 1, 129, 0, 1, 1}, {2, 1, 1, 129, 0, 1}, {2, 1, 1, 1, 129, 0}, {2, 1, 1, 1, 2, 130, 0, 6}, {2, 1, 1, 1, 2, 2, 134, 0},
		// The numbers that are next to those that can be.
		{1, 1, 1, 1, 1}, {0, 1, 1, 1, 1}, {129, 32, 1, 1, 1, 1}, {2, 0, 1, 1, 1}, {2, 8, 1, 1, 1}, {2, 1, 0, 1, 1}, {2, 1, 129, 2, 1, 1}, {2, 1, 1, 0, 1}, {2, 1, 1, 2, 1},
		{2, 1, 1, 129, 128, 4, 1}, {3, 1, 1, 129, 142, 4, 1}, {3, 1, 1, 128, 128, 4, 1}, {3, 1, 1, 129, 128, 8, 1},
		// Lists that can't be.
		{2, 1, 1, 1, 0}, {2, 1, 1, 1, 2}, {2, 1, 1, 1, 2, 2}, {2, 1, 1, 1, 2, 1, 1}, {2, 1, 1, 1, 2, 2, 0}, {2, 1, 1, 1, 3, 2, 6, 2, 7}, {2, 1, 1, 1, 5, 2, 6, 3, 6, 4, 6, 5, 6},
		{2, 1, 1, 1, 3, 2, 6}, {2, 1, 1, 1, 2, 2, 6, 3, 6},
		// Numbers that would go round, or that layer 1 hasn't.
		{130, 128, 128, 128, 16, 1, 1, 1, 1}, {2, 129, 128, 128, 128, 16, 1, 1, 1}, {2, 1, 1, 129, 128, 128, 128, 16, 1}, {2, 1, 1, 129, 128, 128, 128, 128, 128, 128, 128, 64, 1},
		{255, 255, 255, 255, 255, 255, 255, 255, 255, 1, 1, 1, 1, 1}, {255, 255, 255, 255, 255, 255, 255, 255, 255, 2, 1, 1, 1, 1}, {130, 128, 128, 128, 128, 128, 128, 128, 128, 2, 1, 1, 1, 1},
		bytes.Repeat([]byte{2}, 1<<20), bytes.Repeat([]byte{255}, 1<<20), append([]byte{2, 1, 1, 1, 1}, make([]byte, 1<<20)...),
	}
	for _, b := range wrongBlocks() {
		if slices.Min([]int{b.Slot, b.Miner, b.Variant, b.Parent}) >= -1 && max(b.Slot, b.Miner, b.Variant, b.Parent) < math.MaxInt {
			no = append(no, form(b))
		}
	}
	for _, b := range no {
		if x, e := Read(b); !Same(x, api.Block{}) || e != api.ErrBlock {
			t.Errorf("Read(%v): %v %d", b[:min(len(b), 20)], x, e)
		}
	}
}

// TestReadShort: of all that is short, just what is somebody's Bytes is read.
func TestReadShort(t *testing.T) {
	edges := []byte{0, 1, 2, 3, 4, 7, 8, 127, 128, 129, 255}
	found := 0
	for seed := range 11 * 11 * 11 * 11 * 11 {
		b := make([]byte, 5)
		for i := range b {
			b[i] = edges[seed%11]
			seed /= 11
		}
		for _, long := range [][]byte{b[:4], b, append([]byte{2, 1}, b...), append([]byte{3, 2, 1, 129, 128}, b...), append(bytes.Clone(b), 129, 32, 1)} {
			if reads(t, long) {
				found++
			}
		}
	}
	if found < 1000 {
		t.Error("too little was found:", found)
	}
}

// TestReadCutOff: no part of what is read is read too.
func TestReadCutOff(t *testing.T) {
	for _, x := range rightBlocks() {
		b := form(x)
		for n := range b {
			if got, e := Read(b[:n]); !Same(got, api.Block{}) || e != api.ErrBlock {
				t.Errorf("Read(%v): %v %d", b[:n], got, e)
			}
		}
	}
}

// dice answers numbers that a seed leads to.
type dice uint64

func (d *dice) next(n int) int {
	*d = *d*6364136223846793005 + 1442695040888963407
	return int(*d>>33) % n
}

// TestReadChanged: of which a byte is another one, or gone, or one too many.
func TestReadChanged(t *testing.T) {
	blocks := rightBlocks()
	found := 0
	for seed := range 40000 {
		d := dice(seed)
		b := form(blocks[d.next(len(blocks))])
		for range d.next(3) {
			at := d.next(len(b) + 1)
			switch d.next(3) {
			case 0:
				b = slices.Insert(b, at, byte(d.next(256)))
			case 1:
				b = slices.Delete(b, at, min(at+1, len(b)))
			case 2:
				if at < len(b) {
					b[at] ^= 1 << d.next(8)
				}
			}
		}
		if reads(t, b) {
			found++
		}
	}
	if found < 10000 || found > 30000 {
		t.Error("too little was found, or refused:", found)
	}
}

func TestReadSharesNothing(t *testing.T) {
	in := append(bytes.Clone(forms[7].form), 77, 77, 77)
	before := bytes.Clone(in)
	end := len(forms[7].form)
	one, _ := Read(in[:end])
	two, _ := Read(in[:end])
	clear(one.Txs[:cap(one.Txs)])
	_ = append(one.Txs, api.Tx{ID: 9})
	if !bytes.Equal(in, before) {
		t.Error("what was handed in is changed:", in)
	}
	scribble(in)
	if !Same(two, forms[7].block) {
		t.Error("an answer hangs on what was handed in, or on another answer:", two)
	}
}
