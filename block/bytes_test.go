package block

import (
	"bytes"
	"testing"

	"neaptide/api"
)

// num answers the bytes of one more than a number, worked out without layer 1.
func num(n int) []byte {
	var b []byte
	for n++; n > 127; n /= 128 {
		b = append(b, byte(128+n%128))
	}
	return append(b, byte(n))
}

// form answers a block's bytes, whether it can be or not, worked out without the layers below.
func form(b api.Block) []byte {
	var out []byte
	nums := []int{b.Slot, b.Miner, b.Variant, b.Parent, len(b.Txs)}
	for _, x := range b.Txs {
		nums = append(nums, x.ID, x.Fee)
	}
	for _, n := range nums {
		out = append(out, num(n)...)
	}
	return out
}

// forms are blocks with their bytes.
var forms = []struct {
	block api.Block
	form  []byte
}{
	{api.Block{Slot: 1}, []byte{2, 1, 1, 1, 1}},
	{api.Block{Slot: 1, Miner: 2, Variant: 3}, []byte{2, 3, 4, 1, 1}},
	{api.Block{Slot: 1, Miner: 6, Variant: 255, Txs: []api.Tx{}}, []byte{2, 7, 128, 2, 1, 1}},
	{api.Block{Slot: 2, Miner: 0, Variant: 0, Parent: 66051}, []byte{3, 1, 1, 132, 132, 4, 1}},
	{api.Block{Slot: 3, Miner: 1, Variant: 2, Parent: 2*65536 + 6*256 + 255, Txs: []api.Tx{{ID: 7, Fee: 1}}}, []byte{4, 2, 3, 128, 142, 8, 2, 8, 2}},
	{api.Block{Slot: 126, Miner: 6, Variant: 126, Parent: 65536}, []byte{127, 7, 127, 129, 128, 4, 1}},
	{api.Block{Slot: 127, Miner: 6, Variant: 127, Parent: 65536}, []byte{128, 1, 7, 128, 1, 129, 128, 4, 1}},
	{
		api.Block{Slot: 4095, Miner: 5, Variant: 255, Parent: 4094*65536 + 6*256 + 255, Txs: []api.Tx{{ID: 1, Fee: 5}, {ID: 200}, {ID: 1000000, Fee: 1000}}},
		[]byte{128, 32, 6, 128, 2, 128, 142, 248, 127, 4, 2, 6, 201, 1, 1, 193, 132, 61, 233, 7},
	},
}

func TestBytesForms(t *testing.T) {
	for _, c := range forms {
		if b, e := Bytes(c.block); !bytes.Equal(b, c.form) || e != api.OK {
			t.Errorf("Bytes(%v): %v %d, not %v", c.block, b, e, c.form)
		}
		if b, e := Read(c.form); !Same(b, c.block) || e != api.OK {
			t.Errorf("Read(%v): %v %d, not %v", c.form, b, e, c.block)
		}
	}
	for _, x := range rightBlocks() {
		if b, e := Bytes(x); !bytes.Equal(b, form(x)) || e != api.OK {
			t.Errorf("Bytes(%v): %v %d", x, b, e)
		}
	}
}

func TestBytesRefuses(t *testing.T) {
	for _, x := range wrongBlocks() {
		if b, e := Bytes(x); len(b) != 0 || e != api.ErrBlock {
			t.Errorf("Bytes(%v): %v %d", show(x), b, e)
		}
	}
}

func TestBytesIsNewMemory(t *testing.T) {
	x, want := Copy(forms[4].block), forms[4].form
	one, _ := Bytes(x)
	two, _ := Bytes(x)
	scribble(one)
	if three, e := Bytes(x); !bytes.Equal(two, want) || !bytes.Equal(three, want) || e != api.OK {
		t.Error("an answer hangs on the one before it:", two, three, e)
	}
	clear(x.Txs)
	if !bytes.Equal(two, want) {
		t.Error("an answer hangs on what was handed in:", two)
	}
}
