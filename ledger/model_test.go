package ledger

import (
	"slices"
	"testing"

	"neaptide/api"
	"neaptide/block"
	"neaptide/chain"
)

// model tells the ledgers by all blocks that ever were handed in, going down from each one number by number.
type model struct {
	blocks map[int]api.Block
	deep   int
}

// way answers the blocks from the first one on to one; none, if one of them isn't there.
func (m *model) way(name int) []api.Block {
	var l []api.Block
	for name != 0 {
		b, ok := m.blocks[name]
		if !ok {
			return nil
		}
		l = append([]api.Block{b}, l...)
		name = b.Parent
	}
	return l
}

// tip answers the way to the highest block.
func (m *model) tip() []api.Block {
	var best []api.Block
	for name := range m.blocks {
		l := m.way(name)
		if len(l) > len(best) || len(l) == len(best) && len(l) > 0 && name < block.Name(best[len(best)-1]) {
			best = l
		}
	}
	return best
}

// more answers a ledger with what is new on a way.
func more(l []int, way []api.Block) []int {
	for _, b := range way {
		for _, x := range b.Txs {
			if !slices.Contains(l, x.ID) {
				l = append(l, x.ID)
			}
		}
	}
	return l
}

func (m *model) look(decisions []int) look {
	var l look
	for _, name := range decisions {
		way := m.way(name)
		if name != 0 && len(way) == 0 {
			break
		}
		l.settled++
		l.final = more(l.final, way)
	}
	tip := m.tip()
	l.avail = more(slices.Clone(l.final), tip[:max(len(tip)-m.deep, 0)])
	return l
}

// dice answers numbers that a seed leads to.
type dice uint64

func (d *dice) next(n int) int {
	*d = *d*6364136223846793005 + 1442695040888963407
	return int(*d>>33) % n
}

// name answers a name that a block has or may get, sometimes a number that none has.
func (d *dice) name() int {
	switch d.next(30) {
	case 0:
		return far[d.next(len(far))]
	case 1, 2, 3:
		return 0
	}
	return of(1+d.next(20), d.next(2))
}

// block answers one that stands on none or on one of a few slots below, whether that is there or not.
func (d *dice) block() api.Block {
	b := api.Block{Slot: 1 + d.next(20), Miner: d.next(2)}
	if low := b.Slot - 1 - d.next(3); low > 0 && d.next(8) > 0 {
		b.Parent = of(low, d.next(2))
	}
	for range d.next(4) {
		if id := 1 + d.next(30); !slices.ContainsFunc(b.Txs, func(x api.Tx) bool { return x.ID == id }) {
			b.Txs = append(b.Txs, api.Tx{ID: id, Fee: d.next(9)})
		}
	}
	return b
}

// tally counts what plays have led to.
type tally struct{ cut, whole, final, beside int }

// holds tells it, if something else is told than the model tells, or if what was final isn't the beginning.
func (c *tally) holds(t *testing.T, seed int, x *chain.Chain, m *model, decisions, was []int) {
	t.Helper()
	got, want := lookAt(x, decisions), m.look(decisions)
	if got.settled != want.settled || !slices.Equal(got.final, want.final) || !slices.Equal(got.avail, want.avail) {
		t.Fatalf("seed %d: of %v is told\n%v, not\n%v", seed, decisions, got, want)
	}
	if !begins(was, got.final) || !begins(got.final, got.avail) {
		t.Fatalf("seed %d: of %v: %v, %v, %v", seed, decisions, was, got.final, got.avail)
	}
	if got.settled < len(decisions) {
		c.cut++
	} else {
		c.whole++
	}
	if len(got.final) > len(was) {
		c.final++
	}
	if len(got.avail) > len(got.final) {
		c.beside++
	}
}

// play lets a chain take blocks, and lets decisions come, as a seed leads to it.
func (c *tally) play(t *testing.T, seed int) {
	t.Helper()
	d := dice(seed)
	m := &model{blocks: map[int]api.Block{}, deep: d.next(11) * d.next(2)}
	x := at(m.deep)
	var decisions, was []int
	for range 50 {
		b := d.block()
		_, there := m.blocks[block.Name(b)]
		// So few wait that none is ever gone for want of room.
		if !there && len(x.Tree().Waiting()) < 16 {
			m.blocks[block.Name(b)] = b
			takes(t, x, b)
		}
		c.holds(t, seed, x, m, decisions, was)
		was = Final(x, decisions)
		// Most that is decided is known, as behind one that isn't there is nothing to tell.
		name := d.name()
		if d.next(3) == 0 && (name == 0 || x.Tree().Has(name) || d.next(40) == 0) {
			decisions = append(decisions, name)
		}
		c.holds(t, seed, x, m, decisions, was)
		was = Final(x, decisions)
	}
}

func TestModel(t *testing.T) {
	var c tally
	for seed := range 1000 {
		c.play(t, seed)
	}
	if least := min(c.cut, c.whole, c.final, c.beside); least < 1000 {
		t.Errorf("too few of a kind: %+v", c)
	}
}
