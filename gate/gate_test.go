package gate

import (
	"math"
	"testing"

	"neaptide/api"
	"neaptide/msg"
)

// The nodes of most tests: 0 to 2 are honest, 3 and 5 are bad.
const (
	honest      = 1
	otherHonest = 2
	bad         = 3
	otherBad    = 5
)

func gateOf() *Gate { return New([]int{bad, otherBad}) }

// dataOf answers a message's bytes.
func dataOf(t *testing.T, m api.Msg) []byte {
	t.Helper()
	data, e := msg.Bytes(m)
	if e != api.OK {
		t.Fatalf("%v can't be", m)
	}
	return data
}

// blockOf answers the message in which a node says a block.
func blockOf(from int, b api.Block) api.Msg {
	return api.Msg{Kind: api.KindBlock, From: from, Block: b}
}

// by answers a block without transactions that stands on nothing, of a slot and a miner.
func by(slot, miner int) api.Block { return api.Block{Slot: slot, Miner: miner} }

// unlike answers blocks of the same name as b, each unlike b in one thing.
func unlike(b api.Block) []api.Block {
	parent, more, other, fee, order := b, b, b, b, b
	parent.Parent = 2 * 65536
	if b.Parent == parent.Parent {
		parent.Parent = 0
	}
	more.Txs = append([]api.Tx{{ID: 999}}, b.Txs...)
	other.Txs = []api.Tx{{ID: 998}}
	fee.Txs = []api.Tx{{ID: 998, Fee: 1}}
	order.Txs = []api.Tx{{ID: 998, Fee: 1}, {ID: 997}}
	return []api.Block{parent, more, other, fee, order}
}

// votes answers, of a node, messages of all kinds but a block.
func votes(from int) []api.Msg {
	return []api.Msg{
		{Kind: api.KindTx, From: from, Tx: api.Tx{ID: 5, Fee: 2}},
		{Kind: api.KindAsk, From: from, Value: 65536},
		{Kind: api.KindPropose, From: from, Index: 3, View: 2, Value: 66051, Prepared: 1},
		{Kind: api.KindPrepare, From: from, Index: 3, View: 2, Value: -1},
		{Kind: api.KindPrepare, From: from, Index: 3, View: 2, Value: 66051},
		{Kind: api.KindCommit, From: from, Index: 3, View: 2, Value: 66051},
		{Kind: api.KindDecided, From: from, Index: 3, Value: 66051},
	}
}

// says says messages, one behind the other.
func says(t *testing.T, g *Gate, l ...api.Msg) {
	t.Helper()
	for _, m := range l {
		g.Say(dataOf(t, m))
	}
}

// passes asks of messages, one behind the other, and then once more, whether each may be said.
func passes(t *testing.T, what string, g *Gate, want bool, l ...api.Msg) {
	t.Helper()
	for range 2 {
		for _, m := range l {
			if got := g.Pass(dataOf(t, m)); got != want {
				t.Errorf("%s: Pass of %v: %t", what, m, got)
			}
		}
	}
}

func TestExample(t *testing.T) {
	g := gateOf()
	b := api.Block{Slot: 4, Miner: honest, Parent: 65536, Txs: []api.Tx{{ID: 7, Fee: 1}}}
	says(t, g, blockOf(honest, b))
	passes(t, "just as that one said it", g, true, blockOf(honest, b), blockOf(bad, b))
	for _, x := range unlike(b) {
		passes(t, "changed", g, false, blockOf(honest, x), blockOf(bad, x))
	}
	own := by(4, bad)
	says(t, g, blockOf(bad, own))
	for _, x := range unlike(own) {
		passes(t, "under a name that is known otherwise", g, false, blockOf(bad, x))
	}
}

func TestBad(t *testing.T) {
	far := []int{math.MinInt, math.MinInt + 3, -1 << 32, 3 - 1<<32, -3, -1, 0, 1, 2, 3, 4, 5, 6, 7, 8, 64, 67, 259, 1 << 32, 1<<32 + 3, 1<<62 + 3, math.MaxInt}
	for _, c := range []struct{ bad, are []int }{
		{nil, nil},
		{[]int{}, nil},
		{[]int{3}, []int{3}},
		{[]int{0}, []int{0}},
		{[]int{6, 0, 3}, []int{0, 3, 6}},
		{[]int{3, 3, 1, 3, 1}, []int{1, 3}},
		{[]int{0, 1, 2, 3, 4, 5, 6}, []int{0, 1, 2, 3, 4, 5, 6}},
		{[]int{-1, 7, math.MaxInt, math.MinInt}, []int{math.MinInt, -1, 7, math.MaxInt}},
	} {
		g := New(c.bad)
		for _, node := range far {
			want := false
			for _, is := range c.are {
				want = want || is == node
			}
			if got := g.Bad(node); got != want {
				t.Errorf("of %v: Bad(%d): %t", c.bad, node, got)
			}
		}
	}
}

// TestBadStays: nothing that is said or passes makes anybody bad, or honest.
func TestBadStays(t *testing.T) {
	g := gateOf()
	for node := range 7 {
		says(t, g, blockOf(node, by(1, node)))
		says(t, g, votes(node)...)
		g.Pass(dataOf(t, blockOf(node, by(2, node))))
		g.Say([]byte{byte(node)})
		g.Pass([]byte{byte(node)})
	}
	for node := range 7 {
		if got, want := g.Bad(node), node == bad || node == otherBad; got != want {
			t.Errorf("Bad(%d): %t", node, got)
		}
	}
}

// TestNew: nothing was said, and no name is taken.
func TestNew(t *testing.T) {
	g := gateOf()
	for from := range 7 {
		is := from == bad || from == otherBad
		passes(t, "new", g, is, votes(from)...)
		for miner := range 7 {
			taken := miner == bad || miner == otherBad
			passes(t, "new", g, is && taken, blockOf(from, by(1+from, miner)))
		}
	}
}

// TestNobodyIsBad: nothing passes but what was said.
func TestNobodyIsBad(t *testing.T) {
	g := New(nil)
	for from := range 7 {
		l := append(votes(from), blockOf(from, by(1, from)))
		passes(t, "not said", g, false, l...)
		says(t, g, l...)
		passes(t, "said", g, true, l...)
		passes(t, "of another name", g, false, blockOf(from, by(2, from)))
	}
}

// TestAllAreBad: only a name that is taken keeps anything from passing.
func TestAllAreBad(t *testing.T) {
	g := New([]int{0, 1, 2, 3, 4, 5, 6})
	for from := range 7 {
		passes(t, "all are bad", g, true, votes(from)...)
		for miner := range 7 {
			passes(t, "all are bad", g, true, blockOf(from, by(1, miner)))
			passes(t, "all are bad", g, false, blockOf(from, api.Block{Slot: 1, Miner: miner, Txs: []api.Tx{{ID: 1}}}))
		}
	}
}
