package fetch

import (
	"slices"
	"testing"

	"neaptide/api"
)

// dice answers numbers that a seed leads to.
type dice uint64

func (d *dice) next(n int) int {
	*d = *d*6364136223846793005 + 1442695040888963407
	return int(*d>>33) % n
}

// model does what a Fetch does, by walking from node to node for each ask; its next one to ask goes by name.
type model struct {
	me, nodes int
	names     []int
	next      map[int]int
}

func newModel(me, nodes int) *model { return &model{me: me, nodes: nodes, next: map[int]int{}} }

// behind answers the next other one behind a node.
func (m *model) behind(node int) int {
	for {
		if node++; node >= m.nodes {
			node = 0
		}
		if node != m.me {
			return node
		}
	}
}

func (m *model) want(name int) bool {
	slot, miner := name>>16, name>>8&255
	if slot < 1 || slot > 4095 || miner > 6 || slices.Contains(m.names, name) || len(m.names) == 32 {
		return false
	}
	m.names = append(m.names, name)
	if m.nodes > 1 {
		m.next[name] = m.behind(m.me)
	}
	return true
}

func (m *model) got(name int) {
	var left []int
	for _, n := range m.names {
		if n != name {
			left = append(left, n)
		}
	}
	m.names = left
}

func (m *model) tick() []api.Act {
	var acts []api.Act
	for i, name := range m.names {
		if i == 8 || m.nodes == 1 {
			break
		}
		acts = append(acts, ask(m.me, m.next[name], name))
		m.next[name] = m.behind(m.next[name])
	}
	return acts
}

// name answers a number that often was wanted already, and sometimes is no name at all.
func (d *dice) name(slots int) int {
	name := (1+d.next(slots))<<16 + d.next(2)<<8
	switch d.next(25) {
	case 0:
		name += d.next(256) << 8
	case 1:
		name = far[d.next(len(far))]
	case 2:
		name = wrongNames[d.next(len(wrongNames))]
	}
	return name
}

// play does what a seed leads to, to a Fetch and to a model, and answers how often one more was refused as 32 were there.
func play(t *testing.T, seed, calls int) int {
	t.Helper()
	d, full := dice(seed), 0
	nodes := 1 + d.next(7)
	me := d.next(nodes)
	f, m := New(me, nodes), newModel(me, nodes)
	slots, coming := 3+d.next(30), 2+d.next(9)
	for range calls {
		switch name := d.name(slots); {
		case d.next(coming) == 0:
			f.Got(name)
			m.got(name)
		case d.next(4) == 0:
			if got, want := f.Tick(), m.tick(); !sameActs(got, want) {
				t.Fatalf("seed %d: asked is\n%v, not\n%v", seed, got, want)
			}
		default:
			got, want := f.Want(name), m.want(name)
			if got != want {
				t.Fatalf("seed %d: Want(%d): %t", seed, name, got)
			}
			if !want && len(m.names) == 32 && !slices.Contains(m.names, name) {
				full++
			}
		}
		if got := f.Wanted(); !slices.Equal(got, m.names) {
			t.Fatalf("seed %d: wanted is %v, not %v", seed, got, m.names)
		}
	}
	return full
}

func TestModel(t *testing.T) {
	full := 0
	for seed := range 500 {
		full += play(t, seed, 300)
	}
	if full < 1000 {
		t.Error("too seldom there was no room:", full)
	}
}
