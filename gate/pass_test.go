package gate

import (
	"bytes"
	"testing"

	"neaptide/api"
	"neaptide/msg"
	"neaptide/tag"
	"neaptide/wire"
)

// bytesIfRight answers a message's bytes, none if it can't be.
func bytesIfRight(m api.Msg) []byte {
	data, _ := msg.Bytes(m)
	return data
}

// noMessages answers bytes that can't be read, most of them near to a message's.
func noMessages(whole []byte) [][]byte {
	l := [][]byte{nil, {}, {0}, {1}, {255}, bytes.Repeat([]byte{128}, 100), make([]byte, 5000)}
	for i := range whole {
		changed := bytes.Clone(whole)
		changed[i] ^= 1
		l = append(l, whole[:i], changed)
	}
	return append(l, append(bytes.Clone(whole), 0), append(bytes.Clone(whole), whole...), whole[1:])
}

// TestPassNoMessage: what isn't read doesn't pass, whoever seems to say it.
func TestPassNoMessage(t *testing.T) {
	g := gateOf()
	for _, m := range append(votes(bad), blockOf(bad, by(1, bad)), blockOf(bad, by(1, honest))) {
		for _, data := range noMessages(dataOf(t, m)) {
			if g.Pass(data) {
				t.Errorf("%v passes", data)
			}
		}
	}
	passes(t, "no name is known by that", g, true, blockOf(bad, api.Block{Slot: 1, Miner: bad, Txs: []api.Tx{{ID: 1}}}))
}

// TestPassWrongMark: a bad one can't speak under its own mark for another one.
func TestPassWrongMark(t *testing.T) {
	g := gateOf()
	for _, m := range append(votes(honest), blockOf(honest, by(1, bad))) {
		data := dataOf(t, m)
		_, body, _ := wire.ReadNum(data)
		for _, node := range []int{bad, otherBad, 0, otherHonest} {
			if forged := append(wire.Num(tag.Of(tag.Key(node), body)), body...); g.Pass(forged) {
				t.Errorf("%v passes under the mark of %d", m, node)
			}
		}
		says(t, g, m)
		if forged := append(wire.Num(tag.Of(tag.Key(bad), body)), body...); g.Pass(forged) {
			t.Errorf("%v passes under the mark of %d, as it was said under its own", m, bad)
		}
	}
}

// TestPassVotes: a bad one may say two things where an honest one says one; of an honest one nothing passes that it didn't say.
func TestPassVotes(t *testing.T) {
	g := gateOf()
	for _, from := range []int{bad, otherBad} {
		passes(t, "a bad one's", g, true, votes(from)...)
		for view := range 4 {
			for _, value := range []int{-1, 0, 65536, 66051} {
				passes(t, "a bad one's", g, true, api.Msg{Kind: api.KindPrepare, From: from, View: view, Value: value}, api.Msg{Kind: api.KindCommit, From: from, View: view, Value: value})
			}
		}
	}
	for _, from := range []int{0, honest, otherHonest, 4, 6} {
		passes(t, "an honest one's", g, false, votes(from)...)
	}
}

// TestPassIsNotSay: what passed wasn't said by that: no honest one has said the same.
func TestPassIsNotSay(t *testing.T) {
	g := gateOf()
	b := by(1, bad)
	passes(t, "a bad one's", g, true, votes(bad)...)
	passes(t, "a bad one's", g, true, blockOf(bad, b))
	passes(t, "an honest one's", g, false, votes(honest)...)
	passes(t, "an honest one's", g, false, blockOf(honest, b), blockOf(otherHonest, b))
}

// TestPassBlock: a name that isn't known is known under the first block of a bad miner that a bad one says.
func TestPassBlock(t *testing.T) {
	first := api.Block{Slot: 4, Miner: bad, Variant: 1, Txs: []api.Tx{{ID: 4, Fee: 2}}}
	for _, second := range unlike(first) {
		g := gateOf()
		passes(t, "an honest one's word", g, false, blockOf(honest, first), blockOf(honest, second))
		passes(t, "the first one", g, true, blockOf(bad, first), blockOf(otherBad, first))
		passes(t, "the second one", g, false, blockOf(bad, second), blockOf(otherBad, second))
		passes(t, "the first one", g, true, blockOf(bad, first), blockOf(otherBad, first))
		says(t, g, blockOf(honest, second))
		passes(t, "said behind that", g, true, blockOf(honest, second), blockOf(bad, first))
		passes(t, "the second one", g, false, blockOf(bad, second), blockOf(otherBad, second))
	}
}

// TestPassOtherNames: a block of another slot, miner or variant has a name of its own.
func TestPassOtherNames(t *testing.T) {
	g := gateOf()
	b := api.Block{Slot: 4, Miner: bad, Variant: 1, Txs: []api.Tx{{ID: 4, Fee: 2}}}
	slot, miner, variant := b, b, b
	slot.Slot, miner.Miner, variant.Variant = 5, otherBad, 0
	passes(t, "all names are unlike", g, true, blockOf(bad, b), blockOf(bad, slot), blockOf(bad, miner), blockOf(bad, variant))
	for _, x := range []api.Block{b, slot, miner, variant} {
		for _, second := range unlike(x) {
			passes(t, "each name is known", g, false, blockOf(bad, second), blockOf(otherBad, second))
		}
	}
}

// TestPassHonestMiner: a block of an honest miner that nobody said doesn't pass, and its name isn't known by that.
func TestPassHonestMiner(t *testing.T) {
	for _, miner := range []int{0, honest, otherHonest, 4, 6} {
		first := api.Block{Slot: 4, Miner: miner, Parent: 65536, Txs: []api.Tx{{ID: 4, Fee: 2}}}
		for _, second := range unlike(first) {
			g := gateOf()
			passes(t, "nobody said it", g, false, blockOf(bad, first), blockOf(miner, first), blockOf(bad, second))
			says(t, g, blockOf(miner, second))
			passes(t, "it was said so", g, true, blockOf(bad, second), blockOf(miner, second), blockOf(otherBad, second))
			passes(t, "it was said otherwise", g, false, blockOf(bad, first), blockOf(miner, first))
		}
	}
}

// TestPassEdges: the least and the greatest name.
func TestPassEdges(t *testing.T) {
	g := New([]int{0, 6})
	for _, b := range []api.Block{{Slot: 1}, {Slot: 4095, Miner: 6, Variant: 255, Parent: 4094*65536 + 6*256 + 255, Txs: []api.Tx{{ID: 1000000, Fee: 1000}, {ID: 1}, {ID: 2, Fee: 1}}}} {
		second := b
		second.Txs = []api.Tx{{ID: 1}}
		passes(t, "the first one", g, true, blockOf(0, b), blockOf(6, b))
		passes(t, "the second one", g, false, blockOf(0, second), blockOf(6, second))
		passes(t, "an honest one's word", g, false, blockOf(1, b))
	}
}
