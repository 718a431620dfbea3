package mempool

import (
	"cmp"
	"slices"
	"testing"

	"neaptide/api"
)

// model does what a pool does, with a map of fees that is sorted each time.
type model map[int]int

func (m model) list() []api.Tx {
	var l []api.Tx
	for id, fee := range m {
		l = append(l, api.Tx{ID: id, Fee: fee})
	}
	slices.SortFunc(l, func(a, b api.Tx) int {
		return cmp.Or(cmp.Compare(b.Fee, a.Fee), cmp.Compare(a.ID, b.ID))
	})
	return l
}

func (m model) add(t api.Tx) api.Errno {
	if t.ID < 1 || t.ID > 1000000 || t.Fee < 0 || t.Fee > 1000 {
		return 61
	}
	if _, ok := m[t.ID]; ok {
		return 91
	}
	m[t.ID] = t.Fee
	if len(m) <= 16 {
		return 0
	}
	last := m.list()[16]
	delete(m, last.ID)
	if last == t {
		return 91
	}
	return 0
}

func (m model) drop(ids []int) {
	for _, id := range ids {
		delete(m, id)
	}
}

func (m model) pick(many int, skip []int) []api.Tx {
	left := model{}
	for id, fee := range m {
		left[id] = fee
	}
	left.drop(skip)
	l := left.list()
	return l[:min(max(many, 0), len(l))]
}

// dice answers numbers that a seed leads to.
type dice uint64

func (d *dice) next(n int) int {
	*d = *d*6364136223846793005 + 1442695040888963407
	return int(*d>>33) % n
}

// ids answers a few IDs, some of which may be there.
func (d *dice) ids(most int) []int {
	var l []int
	for range d.next(5) {
		l = append(l, d.next(most+2)-1)
	}
	return l
}

// throw answers a transaction: most can be, some can't.
func (d *dice) throw(ids, fees int) api.Tx {
	t := api.Tx{ID: 1 + d.next(ids), Fee: d.next(fees)}
	switch d.next(30) {
	case 0:
		t.ID = -t.ID
	case 1:
		t.Fee = -1 - t.Fee
	case 2:
		t.ID += 1000000
	case 3:
		t.Fee += 1001
	case 4:
		t.Fee = 1000
	}
	return t
}

// play does what a seed leads to, to a pool and to a model, and answers how many times a transaction was taken by a full pool and how many times it was refused by one.
func play(t *testing.T, seed, ids, fees, calls int) (taken, refused int) {
	t.Helper()
	d := dice(seed)
	p, m := New(), model{}
	for range calls {
		if d.next(12) == 0 {
			gone := d.ids(ids)
			p.Drop(gone...)
			m.drop(gone)
		}
		x, before := d.throw(ids, fees), len(m)
		got, want := p.Add(x), m.add(x)
		if got != want {
			t.Fatalf("seed %d: Add(%v): %d, not %d", seed, x, got, want)
		}
		if before == 16 && want == 0 {
			taken++
		}
		if before == 16 && want == 91 {
			refused++
		}
		if l := p.List(); !slices.Equal(l, m.list()) {
			t.Fatalf("seed %d: behind Add(%v) it has %v, not %v", seed, x, l, m.list())
		}
		many, skip := d.next(20)-1, d.ids(ids)
		if l := p.Pick(many, skip...); !slices.Equal(l, m.pick(many, skip)) {
			t.Fatalf("seed %d: Pick(%d, %v): %v, not %v", seed, many, skip, l, m.pick(many, skip))
		}
	}
	return taken, refused
}

func TestModel(t *testing.T) {
	taken, refused := 0, 0
	for seed := range 300 {
		more, less := play(t, seed, 20+seed%40, 1+seed%9, 100)
		taken, refused = taken+more, refused+less
	}
	if taken < 1000 || refused < 1000 {
		t.Error("too few came to a full pool:", taken, "were taken and", refused, "refused")
	}
}
