package msg

import (
	"reflect"
	"testing"

	"neaptide/api"
)

// whole answers a message with everything, whether it can be or not.
func whole() api.Msg {
	return api.Msg{Kind: 3, From: 4, Index: 5, View: 6, Value: 7, Prepared: 8, Tx: api.Tx{ID: 9, Fee: 10}, Block: api.Block{Slot: 11, Miner: 12, Variant: 13, Parent: 14, Txs: []api.Tx{{ID: 15, Fee: 16}, {ID: 17, Fee: 18}}}}
}

// others answers messages that are not whole's same, each in one part.
func others() []api.Msg {
	var l []api.Msg
	for _, n := range append([]int{0, 1, 2, -1}, extremes...) {
		for _, change := range []func(*api.Msg){
			func(m *api.Msg) { m.Kind = n }, func(m *api.Msg) { m.From = n }, func(m *api.Msg) { m.Index = n },
			func(m *api.Msg) { m.View = n }, func(m *api.Msg) { m.Value = n }, func(m *api.Msg) { m.Prepared = n },
			func(m *api.Msg) { m.Tx.ID = n }, func(m *api.Msg) { m.Tx.Fee = n },
			func(m *api.Msg) { m.Block.Slot = n }, func(m *api.Msg) { m.Block.Miner = n },
			func(m *api.Msg) { m.Block.Variant = n }, func(m *api.Msg) { m.Block.Parent = n },
			func(m *api.Msg) { m.Block.Txs[0].ID = n }, func(m *api.Msg) { m.Block.Txs[0].Fee = n },
			func(m *api.Msg) { m.Block.Txs[1].ID = n }, func(m *api.Msg) { m.Block.Txs[1].Fee = n },
		} {
			l = append(l, with(whole(), change))
		}
	}
	for _, txs := range [][]api.Tx{nil, {}, whole().Block.Txs[:1], whole().Block.Txs[1:], append(whole().Block.Txs, api.Tx{}), {{ID: 17, Fee: 18}, {ID: 15, Fee: 16}}} {
		l = append(l, with(whole(), func(m *api.Msg) { m.Block.Txs = txs }))
	}
	return append(l, api.Msg{}, with(whole(), func(m *api.Msg) { m.Kind, m.From = m.From, m.Kind }), with(whole(), func(m *api.Msg) { m.Tx.ID, m.Tx.Fee = m.Tx.Fee, m.Tx.ID }))
}

func TestSame(t *testing.T) {
	if !Same(whole(), whole()) || !Same(api.Msg{}, api.Msg{}) {
		t.Error("two that are the same aren't")
	}
	for _, m := range others() {
		if m.Kind == 3 && m.From == 4 && reflect.DeepEqual(m, whole()) {
			t.Fatal("no other one:", m)
		}
		if Same(m, whole()) || Same(whole(), m) {
			t.Errorf("%v and %v are the same", m, whole())
		}
		if !Same(m, m) || !Same(m, Copy(m)) {
			t.Errorf("%v isn't its own same", m)
		}
	}
}

// TestSameEmpty: a list without elements is one, nil or not.
func TestSameEmpty(t *testing.T) {
	a, b := api.Msg{Kind: 1, Block: api.Block{Slot: 1}}, api.Msg{Kind: 1, Block: api.Block{Slot: 1, Txs: []api.Tx{}}}
	if !Same(a, b) || !Same(b, a) {
		t.Error("an empty list and none aren't the same")
	}
	if m := (api.Msg{Kind: 0, Tx: api.Tx{ID: 1}, Block: api.Block{Txs: []api.Tx{}}}); !Right(m) {
		t.Error("an empty list is too much")
	}
}

func TestCopy(t *testing.T) {
	for _, m := range append(append(others(), whole()), append(rightOnes(), wrongOnes()...)...) {
		if c := Copy(m); !Same(c, m) {
			t.Errorf("%v has the copy %v", m, c)
		}
	}
}
