package chain

import (
	"slices"
	"testing"

	"neaptide/api"
	"neaptide/block"
	"neaptide/tree"
)

// win is a node in a slot.
type win struct{ slot, node int }

// model does what a chain does, beside a tree of its own, step by step as it is promised.
type model struct {
	blocks *tree.Tree
	wins   map[win]bool
	deep   int
	slot   int
}

func newModel(draws []int, deep int) *model {
	m := &model{blocks: tree.New(), wins: map[win]bool{}, deep: deep}
	for i, draw := range draws {
		for node := range 7 {
			if draw%2 == 1 {
				m.wins[win{i + 1, node}] = true
			}
			draw /= 2
		}
	}
	return m
}

// way answers the blocks on the way to one, going down from it.
func (m *model) way(name int) []api.Block {
	var l []api.Block
	for b, ok := m.blocks.Get(name); ok; b, ok = m.blocks.Get(b.Parent) {
		l = append([]api.Block{b}, l...)
	}
	return l
}

func (m *model) take(b api.Block) ([]int, api.Errno) {
	if !block.Right(b) || b.Slot > m.slot || !m.wins[win{b.Slot, b.Miner}] {
		return nil, 111
	}
	names, ok := m.blocks.Add(b)
	if !ok {
		return nil, 111
	}
	return names, 0
}

func (m *model) make(me int, txs []api.Tx) (api.Block, bool) {
	b := api.Block{Slot: m.slot, Miner: me, Parent: m.blocks.Tip()}
	if !m.wins[win{m.slot, me}] {
		return api.Block{}, false
	}
	used := m.txs(b.Parent)
	for _, x := range m.way(b.Parent) {
		if x.Slot >= m.slot {
			return api.Block{}, false
		}
	}
	for _, x := range txs {
		if !slices.Contains(used, x.ID) && len(b.Txs) < 3 {
			b.Txs = append(b.Txs, x)
		}
	}
	if !block.Right(b) {
		return api.Block{}, false
	}
	return b, true
}

func (m *model) confirmed() int {
	way := m.way(m.blocks.Tip())
	if len(way) <= m.deep {
		return 0
	}
	return block.Name(way[len(way)-1-m.deep])
}

func (m *model) txs(name int) []int {
	var ids []int
	for _, b := range m.way(name) {
		for _, x := range b.Txs {
			ids = append(ids, x.ID)
		}
	}
	return ids
}

// dice answers numbers that a seed leads to.
type dice uint64

func (d *dice) next(n int) int {
	*d = *d*6364136223846793005 + 1442695040888963407
	return int(*d>>33) % n
}

// txs answers a few transactions; some lists have one twice, or one that can't be.
func (d *dice) txs(most int) []api.Tx {
	var l []api.Tx
	for range d.next(most + 1) {
		l = append(l, api.Tx{ID: 1 + d.next(40), Fee: d.next(9)})
	}
	if len(l) > 0 && d.next(20) == 0 {
		l[d.next(len(l))].ID = 0
	}
	return l
}

// block answers a block a little behind the one on which it stands: most on one that is known, others on one that may come yet.
func (d *dice) block(m *model) api.Block {
	b := api.Block{Miner: d.next(3), Variant: d.next(20) / 19, Txs: d.txs(3)}
	switch known := m.blocks.Names(); {
	case len(known) > 0 && d.next(3) > 0:
		b.Parent = known[max(len(known)-1-d.next(6), 0)]
	case m.slot > 1 && d.next(4) > 0:
		b.Parent = of(1+d.next(m.slot), d.next(3))
	}
	b.Slot = block.Slot(b.Parent) + 1 + d.next(3)
	if d.next(10) == 0 {
		b.Slot = d.next(m.slot + 3)
	}
	if missing := m.blocks.Missing(); len(missing) > 0 && d.next(3) == 0 {
		name := missing[d.next(len(missing))]
		b.Slot, b.Miner, b.Variant = block.Slot(name), block.Miner(name), 0
	}
	return b
}

// tally counts what plays have led to.
type tally struct{ taken, refused, late, made, none, confirmed int }

// took lets a chain and its model take a block, and tells it, if they answer unlike things.
func (c *tally) took(t *testing.T, x *Chain, m *model, b api.Block) {
	t.Helper()
	got, e := x.Take(b)
	want, wantE := m.take(b)
	if e != wantE || !slices.Equal(got, want) {
		t.Fatalf("Take(%v): %v %d, not %v %d", b, got, e, want, wantE)
	}
	if e == 0 {
		c.taken++
		c.late += max(len(got)-1, 0)
	} else {
		c.refused++
	}
}

// holds tells it, if a chain tells other things than its model.
func (c *tally) holds(t *testing.T, x *Chain, m *model) {
	t.Helper()
	names := m.blocks.Names()
	if x.Slot() != m.slot || x.Confirmed() != m.confirmed() || !slices.Equal(x.Tree().Names(), names) || !slices.Equal(x.Tree().Waiting(), m.blocks.Waiting()) {
		t.Fatalf("slot %d, confirmed %d, known %v, not %d, %d, %v", x.Slot(), x.Confirmed(), x.Tree().Names(), m.slot, m.confirmed(), names)
	}
	for _, name := range append(names, 0, n(m.slot+1)) {
		if got, want := x.Txs(name), m.txs(name); !slices.Equal(got, want) {
			t.Fatalf("Txs(%d): %v, not %v", name, got, want)
		}
	}
	if m.confirmed() != 0 {
		c.confirmed++
	}
}

// play lets a chain and its model do what a seed leads to.
func (c *tally) play(t *testing.T, seed int) {
	t.Helper()
	d := dice(seed)
	draws := make([]int, 1+d.next(30))
	for i := range draws {
		draws[i] = d.next(128) | d.next(128)
	}
	deep := d.next(11) * d.next(2)
	x, m := New(draws, deep), newModel(draws, deep)
	for range 60 {
		switch d.next(6) {
		case 0:
			slot := m.slot + d.next(5) - 1
			x.Next(slot)
			m.slot = max(m.slot, slot)
		case 1, 2:
			me, txs := d.next(8), d.txs(8)
			got, ok := x.Make(me, txs)
			want, wantOK := m.make(me, txs)
			if ok != wantOK || !block.Same(got, want) {
				t.Fatalf("seed %d: Make(%d, %v): %v %t, not %v %t", seed, me, txs, got, ok, want, wantOK)
			}
			if !ok {
				c.none++
				continue
			}
			c.made++
			if d.next(3) > 0 {
				c.took(t, x, m, got)
			}
		default:
			c.took(t, x, m, d.block(m))
		}
		c.holds(t, x, m)
	}
}

func TestModel(t *testing.T) {
	var c tally
	for seed := range 2000 {
		c.play(t, seed)
	}
	if least := min(c.taken, c.refused, c.late, c.made, c.none, c.confirmed); least < 500 {
		t.Errorf("too few of a kind: %+v", c)
	}
}
