package gate

import (
	"testing"

	"neaptide/api"
)

// TestSaidPasses: whoever says it, of each kind, just as it was said.
func TestSaidPasses(t *testing.T) {
	for from := range 7 {
		g := gateOf()
		l := append(votes(from), blockOf(from, by(1, honest)), blockOf(from, by(2, from)))
		for i, m := range l {
			if !g.Bad(from) {
				passes(t, "not said yet", g, false, l[i:]...)
			}
			says(t, g, m)
			passes(t, "said", g, true, l[:i+1]...)
		}
		says(t, g, l...)
		passes(t, "said twice", g, true, l...)
	}
}

// TestSaidIsOneMessage: what is unlike in one thing, or said by another honest one, wasn't said.
func TestSaidIsOneMessage(t *testing.T) {
	for _, m := range votes(honest) {
		g := gateOf()
		says(t, g, m)
		passes(t, "of another one", g, false, votes(otherHonest)...)
		passes(t, "of another one", g, false, votes(0)...)
		for _, change := range []func(m *api.Msg){
			func(m *api.Msg) { m.Index++ },
			func(m *api.Msg) { m.View++ },
			func(m *api.Msg) { m.Value = 2 * 65536 },
			func(m *api.Msg) { m.Prepared-- },
			func(m *api.Msg) { m.Tx.ID++ },
			func(m *api.Msg) { m.Tx.Fee++ },
			func(m *api.Msg) { m.Kind = api.KindPrepare + api.KindCommit - m.Kind },
		} {
			x := m
			change(&x)
			if data := bytesIfRight(x); data != nil && g.Pass(data) {
				t.Errorf("%v passes, as %v was said", x, m)
			}
		}
	}
}

// TestSaidBlockIsOneMessage: an honest one's own word is needed, also for a block that is known.
func TestSaidBlockIsOneMessage(t *testing.T) {
	g := gateOf()
	b := by(3, honest)
	says(t, g, blockOf(honest, b))
	passes(t, "of other honest ones", g, false, blockOf(0, b), blockOf(otherHonest, b), blockOf(6, b))
	passes(t, "of bad ones", g, true, blockOf(bad, b), blockOf(otherBad, b))
	says(t, g, blockOf(otherHonest, b))
	passes(t, "of one more", g, true, blockOf(otherHonest, b), blockOf(honest, b))
	passes(t, "of other honest ones", g, false, blockOf(0, b), blockOf(6, b))
}

// TestVotesMakeNoBlockKnown: only a block that is said is.
func TestVotesMakeNoBlockKnown(t *testing.T) {
	g := gateOf()
	b := api.Block{Slot: 1, Miner: 2, Variant: 3}
	says(t, g, votes(otherHonest)...)
	says(t, g, votes(bad)...)
	passes(t, "a block that was voted for", g, false, blockOf(bad, b), blockOf(otherHonest, b))
	says(t, g, blockOf(0, b))
	passes(t, "a block that was said", g, true, blockOf(bad, b))
}

// TestSaidFirst: a name is known under what was said first, whoever said it and whoever its miner is.
func TestSaidFirst(t *testing.T) {
	for miner := range 7 {
		for from := range 7 {
			first := api.Block{Slot: 7, Miner: miner, Variant: 2, Txs: []api.Tx{{ID: 4}}}
			for _, second := range unlike(first) {
				g := gateOf()
				says(t, g, blockOf(from, first), blockOf(otherHonest, second))
				passes(t, "both were said so", g, true, blockOf(from, first), blockOf(otherHonest, second))
				passes(t, "the first one", g, true, blockOf(bad, first), blockOf(otherBad, first))
				if from != otherBad {
					passes(t, "the second one", g, false, blockOf(otherBad, second))
				}
			}
		}
	}
}

// TestSayNoMessage: bytes that aren't read never pass, and make no name known.
func TestSayNoMessage(t *testing.T) {
	b := by(9, honest)
	whole := dataOf(t, blockOf(bad, b))
	for _, data := range noMessages(whole) {
		g := gateOf()
		g.Say(data)
		if g.Pass(data) {
			t.Errorf("%v passes", data)
		}
		passes(t, "not said", g, false, blockOf(bad, b), blockOf(honest, b))
		g.Say(whole)
		g.Say(data)
		if g.Pass(data) {
			t.Errorf("%v passes", data)
		}
		passes(t, "said", g, true, blockOf(bad, b), blockOf(otherBad, b))
	}
}
