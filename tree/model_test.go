package tree

import (
	"slices"
	"testing"

	"neaptide/api"
	"neaptide/block"
)

// model does what a tree does, with two lists that it goes through each time.
type model struct {
	known, waiting []api.Block
}

// named answers the block of a name in a list.
func named(l []api.Block, name int) (api.Block, bool) {
	for _, b := range l {
		if nameOf(b.Slot, b.Miner, b.Variant) == name {
			return b, true
		}
	}
	return api.Block{}, false
}

// namesOf answers the names of a list, in its order.
func namesOf(l []api.Block) []int {
	var names []int
	for _, b := range l {
		names = append(names, nameOf(b.Slot, b.Miner, b.Variant))
	}
	return names
}

func (m *model) has(name int) bool {
	_, ok := named(m.known, name)
	return ok
}

func (m *model) add(b api.Block) ([]int, bool) {
	name := nameOf(b.Slot, b.Miner, b.Variant)
	_, waits := named(m.waiting, name)
	if !block.Right(b) || m.has(name) || waits {
		return nil, false
	}
	if b.Parent != 0 && !m.has(b.Parent) {
		m.waiting = append(m.waiting, b)
		m.waiting = slices.Clone(m.waiting[max(len(m.waiting)-16, 0):])
		return nil, true
	}
	if len(m.known) == 400 {
		return nil, false
	}
	m.known = append(m.known, b)
	done := []int{name}
	for i := 0; i < len(m.waiting); i++ {
		w := m.waiting[i]
		if !m.has(w.Parent) {
			continue
		}
		m.waiting = append(slices.Clone(m.waiting[:i]), m.waiting[i+1:]...)
		i = -1
		if len(m.known) < 400 {
			m.known = append(m.known, w)
			done = append(done, nameOf(w.Slot, w.Miner, w.Variant))
		}
	}
	return done, true
}

func (m *model) missing() []int {
	var names []int
	for _, name := range thrown(maxThrown) {
		if m.has(name) || slices.Contains(namesOf(m.waiting), name) {
			continue
		}
		if slices.ContainsFunc(m.waiting, func(b api.Block) bool { return b.Parent == name }) {
			names = append(names, name)
		}
	}
	return names
}

func (m *model) path(name int) []int {
	b, ok := named(m.known, name)
	if !ok {
		return nil
	}
	return append(m.path(b.Parent), name)
}

func (m *model) height(name int) int {
	if name != 0 && !m.has(name) {
		return -1
	}
	return len(m.path(name))
}

func (m *model) back(name, steps int) int {
	for ; steps > 0; steps-- {
		b, _ := named(m.known, name)
		name = b.Parent
	}
	if !m.has(name) {
		return 0
	}
	return name
}

func (m *model) common(a, b int) int {
	last, other := 0, m.path(b)
	for _, name := range m.path(a) {
		if slices.Contains(other, name) {
			last = name
		}
	}
	return last
}

func (m *model) tip() int {
	names := namesOf(m.known)
	slices.Sort(names)
	tip := 0
	for _, name := range names {
		if tip == 0 || m.height(name) > m.height(tip) {
			tip = name
		}
	}
	return tip
}

// maxThrown is more slots than any dice throw blocks of.
const maxThrown = 20

// thrown answers the names of all blocks that can be thrown, rising.
func thrown(slots int) []int {
	var names []int
	for slot := 1; slot <= slots; slot++ {
		for miner := range 3 {
			names = append(names, nameOf(slot, miner, 0), nameOf(slot, miner, 1))
		}
	}
	return names
}

// dice answers numbers that a seed leads to.
type dice uint64

func (d *dice) next(n int) int {
	*d = *d*6364136223846793005 + 1442695040888963407
	return int(*d>>33) % n
}

// throw answers a block of a few slots, miners and variants: most can be, some can't; most on another one that may be there.
func (d *dice) throw(slots int) api.Block {
	b := api.Block{Slot: 1 + d.next(slots), Miner: d.next(3), Variant: d.next(2)}
	if below := d.next(b.Slot); below > 0 && d.next(8) > 0 {
		b.Parent = nameOf(below, d.next(3), d.next(2))
	}
	for range d.next(3) {
		b.Txs = append(b.Txs, api.Tx{ID: 1 + d.next(9), Fee: d.next(9)})
	}
	switch d.next(40) {
	case 0:
		b.Slot = -b.Slot
	case 1:
		b.Miner = 7
	case 2:
		b.Parent = nameOf(b.Slot, d.next(3), 0)
	}
	return b
}

// holds tells it, if a tree and a model tell unlike things of these names, and answers whether it did.
func holds(t *testing.T, x *Tree, m *model, names []int) bool {
	t.Helper()
	known := namesOf(m.known)
	slices.Sort(known)
	if !slices.Equal(x.Names(), known) || !slices.Equal(x.Waiting(), namesOf(m.waiting)) || x.Tip() != m.tip() {
		t.Errorf("known %v, waiting %v, tip %d, not %v, %v, %d", x.Names(), x.Waiting(), x.Tip(), known, namesOf(m.waiting), m.tip())
		return false
	}
	for _, a := range names {
		got, ok := x.Get(a)
		want, has := named(m.known, a)
		if ok != has || x.Has(a) != has || !block.Same(got, want) || x.Height(a) != m.height(a) || !slices.Equal(x.Path(a), m.path(a)) {
			t.Errorf("of %d: %v %t, height %d, way %v, not %v %t, %d, %v", a, got, ok, x.Height(a), x.Path(a), want, has, m.height(a), m.path(a))
			return false
		}
		for steps := -1; steps < 6; steps++ {
			if x.Back(a, steps) != m.back(a, steps) {
				t.Errorf("of %d %d down: %d, not %d", a, steps, x.Back(a, steps), m.back(a, steps))
				return false
			}
		}
		b := names[(a&255+a>>16)%len(names)]
		if x.Common(a, b) != m.common(a, b) {
			t.Errorf("of %d and %d: %d, not %d", a, b, x.Common(a, b), m.common(a, b))
			return false
		}
	}
	return true
}

// play adds blocks to a tree and to a model of which so many are known, as a seed leads to them, and answers how many were known, or gone, by another one.
func play(t *testing.T, seed, filled, slots, blocks int) (late, gone int) {
	t.Helper()
	d := dice(seed)
	x, m := New(), &model{}
	for slot := 1; slot <= filled; slot++ {
		b := api.Block{Slot: slot, Miner: 5}
		x.Add(b)
		m.add(b)
	}
	names := append(thrown(slots), 0, nameOf(1, 3, 0), nameOf(1, 5, 0))
	for i := range blocks {
		b := d.throw(slots)
		before := len(m.waiting)
		got, ok := x.Add(b)
		want, taken := m.add(b)
		if ok != taken || !slices.Equal(got, want) {
			t.Fatalf("seed %d: Add(%v): %v %t, not %v %t", seed, b, got, ok, want, taken)
		}
		if len(want) > 0 {
			late += len(want) - 1
			gone += before - len(m.waiting) - (len(want) - 1)
		}
		if i%10 == 0 && !holds(t, x, m, names) {
			t.Fatalf("seed %d: behind %d blocks", seed, i+1)
		}
	}
	if !holds(t, x, m, names) || !slices.Equal(x.Missing(), m.missing()) {
		t.Fatalf("seed %d: in the end; missing are %v, not %v", seed, x.Missing(), m.missing())
	}
	return late, gone
}

func TestModel(t *testing.T) {
	late := 0
	for seed := range 300 {
		more, gone := play(t, seed, 0, 4+seed%12, 60)
		late += more
		if gone != 0 {
			t.Errorf("seed %d: %d are gone, though there is room", seed, gone)
		}
	}
	if late < 1000 {
		t.Error("too few waited:", late)
	}
}

// TestModelOfFull: the same where there is soon no room any more.
func TestModelOfFull(t *testing.T) {
	late, gone := 0, 0
	for seed := range 200 {
		l, g := play(t, seed, 399-seed%13, 8+seed%8, 50)
		late, gone = late+l, gone+g
	}
	if late < 30 || gone < 30 {
		t.Error("too few waited:", late, "or are gone:", gone)
	}
}
