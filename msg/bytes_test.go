package msg

import (
	"bytes"
	"testing"

	"neaptide/api"
)

// groups answers a number's groups of seven bits, worked out apart from layer 1.
func groups(n uint64) []byte {
	out := []byte{byte(n % 128)}
	if n >= 128 {
		out[0] += 128
		out = append(out, groups(n/128)...)
	}
	return out
}

// markOf answers a node's mark on a body, worked out apart from layer 2.
func markOf(node int, body []byte) uint64 {
	x := uint64(node+1) * 0x9E3779B97F4A7C15
	x ^= 0xCBF29CE484222325
	for _, c := range body {
		x = (x ^ uint64(c)) * 0x100000001B3
	}
	return x ^ x>>29
}

// under answers a body behind a node's mark.
func under(node int, body []byte) []byte {
	return append(groups(markOf(node, body)), body...)
}

// bodyForm answers a message's body, worked out apart from the lower layers, whether the message can be or not.
func bodyForm(m api.Msg) []byte {
	var out []byte
	put := func(nums ...int) {
		for _, n := range nums {
			out = append(out, groups(uint64(n)+1)...)
		}
	}
	put(m.Kind, m.From, m.Index, m.View, m.Value, m.Prepared)
	if m.Kind == 0 {
		put(m.Tx.ID, m.Tx.Fee)
	}
	if m.Kind == 1 {
		put(m.Block.Slot, m.Block.Miner, m.Block.Variant, m.Block.Parent, len(m.Block.Txs))
		for _, x := range m.Block.Txs {
			put(x.ID, x.Fee)
		}
	}
	return out
}

// form answers a message's bytes, whether it can be or not.
func form(m api.Msg) []byte { return under(m.From, bodyForm(m)) }

// bodies are messages, and their bodies put together by hand.
var bodies = []struct {
	m    api.Msg
	body []byte
}{
	{api.Msg{Kind: api.KindTx, From: 1, Tx: api.Tx{ID: 5, Fee: 2}}, []byte{1, 2, 1, 1, 1, 1, 6, 3}},
	{api.Msg{Kind: api.KindTx, Tx: api.Tx{ID: 1000000, Fee: 1000}}, []byte{1, 1, 1, 1, 1, 1, 193, 132, 61, 233, 7}},
	{api.Msg{Kind: api.KindBlock, Block: api.Block{Slot: 2, Miner: 3, Parent: 65536}}, []byte{2, 1, 1, 1, 1, 1, 3, 4, 1, 129, 128, 4, 1}},
	{api.Msg{Kind: api.KindBlock, From: 6, Block: api.Block{Slot: 1, Miner: 2, Variant: 3, Txs: []api.Tx{{ID: 1, Fee: 5}, {ID: 200}}}}, []byte{2, 7, 1, 1, 1, 1, 2, 3, 4, 1, 3, 2, 6, 201, 1, 1}},
	{api.Msg{Kind: api.KindAsk, From: 6, Value: 65536}, []byte{3, 7, 1, 1, 129, 128, 4, 1}},
	{api.Msg{Kind: api.KindAsk}, []byte{3, 1, 1, 1, 1, 1}},
	{api.Msg{Kind: api.KindPropose, From: 1, Index: 2, View: 3, Prepared: -1}, []byte{4, 2, 3, 4, 1, 0}},
	{api.Msg{Kind: api.KindPropose, View: 3, Prepared: 2}, []byte{4, 1, 1, 4, 1, 3}},
	{api.Msg{Kind: api.KindPrepare, View: 1, Value: -1}, []byte{5, 1, 1, 2, 0, 1}},
	{api.Msg{Kind: api.KindPrepare, From: 2, Index: 127, View: 126, Value: 66051}, []byte{5, 3, 128, 1, 127, 132, 132, 4, 1}},
	{api.Msg{Kind: api.KindCommit, Index: 1000, View: 1000, Value: 65536}, []byte{6, 1, 233, 7, 233, 7, 129, 128, 4, 1}},
	{api.Msg{Kind: api.KindDecided, From: 5, Index: 4, Value: 65536}, []byte{7, 6, 5, 1, 129, 128, 4, 1}},
}

func TestBytes(t *testing.T) {
	for _, c := range bodies {
		want := under(c.m.From, c.body)
		if b, e := Bytes(c.m); !bytes.Equal(b, want) || e != api.OK {
			t.Errorf("Bytes(%v): %v %d, not %v", c.m, b, e, want)
		}
		if m, e := Read(want); !Same(m, c.m) || e != api.OK {
			t.Errorf("Read(%v): %v %d, not %v", want, m, e, c.m)
		}
	}
}

// TestBytesWhole: all of it is put together by hand, the mark too.
func TestBytesWhole(t *testing.T) {
	m := api.Msg{Kind: api.KindTx, From: 1, Tx: api.Tx{ID: 5, Fee: 2}}
	want := []byte{161, 192, 160, 225, 212, 211, 134, 209, 18, 1, 2, 1, 1, 1, 1, 6, 3}
	if b, e := Bytes(m); !bytes.Equal(b, want) || e != api.OK {
		t.Errorf("Bytes(%v): %v %d, not %v", m, b, e, want)
	}
}

func TestBytesOfAll(t *testing.T) {
	for _, m := range rightOnes() {
		want := form(m)
		if b, e := Bytes(m); !bytes.Equal(b, want) || e != api.OK {
			t.Errorf("Bytes(%v): %v %d, not %v", m, b, e, want)
		}
		if got, e := Read(want); !Same(got, m) || e != api.OK {
			t.Errorf("Read(%v): %v %d, not %v", want, got, e, m)
		}
	}
}

func TestBytesRefuses(t *testing.T) {
	for _, m := range wrongOnes() {
		if b, e := Bytes(m); len(b) > 0 || e != api.ErrMsg {
			t.Errorf("Bytes(%v): %v %d", m, b, e)
		}
	}
}

// TestBytesAreOnesOwn: two that aren't the same have no bytes in common.
func TestBytesAreOnesOwn(t *testing.T) {
	of := map[string]api.Msg{}
	for _, m := range rightOnes() {
		b, _ := Bytes(m)
		if before, known := of[string(b)]; known && !Same(before, m) {
			t.Errorf("%v and %v have the same bytes", m, before)
		}
		of[string(b)] = m
	}
}
