package gate

import (
	"bytes"
	"testing"

	"neaptide/api"
	"neaptide/block"
	"neaptide/msg"
)

// dice answers numbers that a seed leads to.
type dice uint64

func (d *dice) next(n int) int {
	*d = *d*6364136223846793005 + 1442695040888963407
	return int(*d>>33) % n
}

// What a Pass comes to, by the chapter's sentences.
const (
	unread = iota
	said
	fromHonest
	noBlock
	knownSo
	knownOtherwise
	honestMiner
	newlyKnown
	reasons
)

// model does what a Gate does, going through lists.
type model struct {
	bad   [7]bool
	said  [][]byte
	known []api.Block
}

// under answers the block under which a name is known.
func (m *model) under(b api.Block) (api.Block, bool) {
	for _, x := range m.known {
		if x.Slot == b.Slot && x.Miner == b.Miner && x.Variant == b.Variant {
			return x, true
		}
	}
	return api.Block{}, false
}

func (m *model) say(data []byte) {
	m.said = append(m.said, data)
	x, e := msg.Read(data)
	if e != api.OK || x.Kind != api.KindBlock {
		return
	}
	if _, ok := m.under(x.Block); !ok {
		m.known = append(m.known, x.Block)
	}
}

// pass answers why it passes, or doesn't.
func (m *model) pass(data []byte) int {
	x, e := msg.Read(data)
	if e != api.OK {
		return unread
	}
	for _, l := range m.said {
		if bytes.Equal(l, data) {
			return said
		}
	}
	if !m.bad[x.From] {
		return fromHonest
	}
	if x.Kind != api.KindBlock {
		return noBlock
	}
	if y, ok := m.under(x.Block); ok {
		if block.Same(x.Block, y) {
			return knownSo
		}
		return knownOtherwise
	}
	if !m.bad[x.Block.Miner] {
		return honestMiner
	}
	m.known = append(m.known, x.Block)
	return newlyKnown
}

// message answers one that often was said already, or is of a block whose name is known.
func (d *dice) message() api.Msg {
	m := api.Msg{Kind: d.next(7), From: d.next(7)}
	value := 65536*(1+d.next(3)) + 256*d.next(7)
	if d.next(2) == 0 {
		m.Kind = api.KindBlock
	}
	switch m.Kind {
	case api.KindTx:
		m.Tx = api.Tx{ID: 1 + d.next(3), Fee: d.next(2)}
	case api.KindBlock:
		m.Block = api.Block{Slot: 2 + d.next(2), Miner: d.next(7), Variant: d.next(2), Parent: 65536 * d.next(2)}
		for i := range d.next(3) {
			m.Block.Txs = append(m.Block.Txs, api.Tx{ID: 1 + i, Fee: d.next(2)})
		}
	case api.KindAsk, api.KindDecided:
		m.Value = value
	default:
		m.Index, m.View, m.Value = d.next(2), d.next(2), value
	}
	if m.Kind == api.KindPropose {
		m.Prepared = -1
	}
	return m
}

// data answers bytes that most often are a message's.
func (d *dice) data(t *testing.T) []byte {
	t.Helper()
	data := dataOf(t, d.message())
	switch d.next(12) {
	case 0:
		data = data[:d.next(len(data))]
	case 1:
		data[d.next(len(data))] ^= byte(1 + d.next(255))
	}
	return data
}

// twins answers a gate and its model.
func (d *dice) twins() (*Gate, *model) {
	m := &model{}
	var list []int
	for range d.next(8) {
		node := d.next(7)
		list = append(list, node)
		m.bad[node] = true
	}
	return New(list), m
}

func TestModel(t *testing.T) {
	var seen [reasons]int
	for seed := range 400 {
		d := dice(seed)
		g, m := d.twins()
		calls := 20 + 10*(seed%30)
		for call := range calls {
			data := d.data(t)
			if d.next(3) == 0 {
				m.say(data)
				g.Say(data)
				continue
			}
			why := m.pass(data)
			seen[why]++
			want := why == said || why == noBlock || why == knownSo || why == newlyKnown
			if got := g.Pass(data); got != want {
				t.Fatalf("seed %d, call %d: Pass(%v): %t, for reason %d", seed, call, data, got, why)
			}
		}
		for node, want := range m.bad {
			if g.Bad(node) != want {
				t.Fatalf("seed %d: Bad(%d) isn't %t", seed, node, want)
			}
		}
	}
	for why, many := range seen {
		if many < 300 {
			t.Errorf("reason %d comes too seldom: %d", why, many)
		}
	}
}

// TestAnyBytes: whatever comes, no call panics, and what can't be read doesn't pass.
func TestAnyBytes(t *testing.T) {
	d := dice(1)
	g := gateOf()
	for range 20000 {
		data := make([]byte, d.next(40))
		for i := range data {
			data[i] = byte(d.next(256))
		}
		g.Say(data)
		if _, e := msg.Read(data); e != api.OK && g.Pass(data) {
			t.Errorf("%v passes", data)
		}
	}
}
