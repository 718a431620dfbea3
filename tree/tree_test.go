package tree

import (
	"math"
	"slices"
	"testing"

	"neaptide/api"
	"neaptide/block"
)

// nameOf answers the name of these numbers, put together from bytes.
func nameOf(slot, miner, variant int) int { return slot<<16 | miner<<8 | variant }

// on answers a block of miner 0 in a slot.
func on(parent, slot int) api.Block { return api.Block{Slot: slot, Parent: parent} }

// n answers the name of the block that miner 0 makes in a slot.
func n(slot int) int { return nameOf(slot, 0, 0) }

// look is all that a tree tells of itself without being asked for a name.
type look struct {
	names, waiting, missing []int
	tip                     int
}

// lookAt answers what a tree tells of itself.
func lookAt(x *Tree) look { return look{x.Names(), x.Waiting(), x.Missing(), x.Tip()} }

// same tells whether two looks are one.
func (l look) same(m look) bool {
	return slices.Equal(l.names, m.names) && slices.Equal(l.waiting, m.waiting) && slices.Equal(l.missing, m.missing) && l.tip == m.tip
}

// is tells it, if a tree isn't so.
func is(t *testing.T, x *Tree, want look) {
	t.Helper()
	if got := lookAt(x); !got.same(want) {
		t.Errorf("%v, not %v", got, want)
	}
}

// adds tells it, if a block isn't taken, or other names are known by it.
func adds(t *testing.T, x *Tree, b api.Block, want ...int) {
	t.Helper()
	if l, ok := x.Add(b); !ok || !slices.Equal(l, want) {
		t.Errorf("Add(%v): %v %t, not %v", b, l, ok, want)
	}
}

// refuses tells it, if a block is taken, or anything is another way then.
func refuses(t *testing.T, x *Tree, b api.Block) {
	t.Helper()
	before := lookAt(x)
	if l, ok := x.Add(b); ok || len(l) != 0 {
		t.Errorf("Add(%v): %v %t", b, l, ok)
	}
	is(t, x, before)
}

// grown answers a tree: 1 has 2 and 3 on it, 3 has 4 and 5, 6 stands alone; 12 waits for 11, 10 for 9, 13 for 12.
func grown(t *testing.T) *Tree {
	t.Helper()
	x := New()
	adds(t, x, on(0, 1), n(1))
	adds(t, x, on(0, 6), n(6))
	adds(t, x, on(n(1), 3), n(3))
	adds(t, x, on(n(11), 12))
	adds(t, x, on(n(9), 10))
	adds(t, x, on(n(3), 5), n(5))
	adds(t, x, on(n(12), 13))
	adds(t, x, on(n(1), 2), n(2))
	adds(t, x, on(n(3), 4), n(4))
	return x
}

func TestNew(t *testing.T) {
	x := New()
	is(t, x, look{})
	for _, name := range []int{0, 1, -1, n(1), math.MinInt, math.MaxInt} {
		if _, ok := x.Get(name); ok || x.Has(name) || len(x.Path(name)) != 0 || x.Back(name, 0) != 0 || x.Common(name, name) != 0 {
			t.Error("something is known of", name)
		}
	}
	refuses(t, x, api.Block{})
}

// TestExample: a block on one that isn't there waits; when that one comes, both are known.
func TestExample(t *testing.T) {
	x := New()
	adds(t, x, on(n(1), 2))
	is(t, x, look{waiting: []int{n(2)}, missing: []int{n(1)}})
	adds(t, x, on(0, 1), n(1), n(2))
	is(t, x, look{names: []int{n(1), n(2)}, tip: n(2)})
}

func TestAddRefusesWhatIsNotRight(t *testing.T) {
	x := grown(t)
	for _, b := range []api.Block{
		{}, {Slot: 0, Parent: 0}, {Slot: -1}, {Slot: 4096}, {Slot: 7, Miner: 7}, {Slot: 7, Miner: -1}, {Slot: 7, Variant: 256}, {Slot: 7, Variant: -1},
		{Slot: 1<<32 + 7}, {Slot: math.MaxInt}, {Slot: math.MinInt}, {Slot: 7, Parent: 1}, {Slot: 7, Parent: -1}, {Slot: 7, Parent: n(7) + 1}, {Slot: 7, Parent: n(8)},
		{Slot: 7, Parent: nameOf(6, 7, 0)}, {Slot: 2, Miner: 1, Parent: n(3)}, {Slot: 7, Parent: math.MaxInt},
		{Slot: 7, Txs: []api.Tx{{}}}, {Slot: 7, Txs: []api.Tx{{ID: 1}, {ID: 1, Fee: 1}}}, {Slot: 7, Txs: []api.Tx{{ID: 1}, {ID: 2}, {ID: 3}, {ID: 4}}},
		{Slot: 7, Parent: n(1), Txs: []api.Tx{{ID: 1, Fee: 1001}}}, {Slot: 14, Parent: n(9), Txs: []api.Tx{{ID: -1}}}, {Slot: 7, Txs: make([]api.Tx, 1<<20)},
	} {
		if block.Right(b) {
			t.Errorf("%v is right", b)
		}
		if l, ok := x.Add(b); ok || len(l) != 0 {
			t.Errorf("a block of slot %d on %d: %v %t", b.Slot, b.Parent, l, ok)
		}
	}
	if !lookAt(x).same(lookAt(grown(t))) {
		t.Error("what isn't right has changed it:", lookAt(x))
	}
}

// TestAddRefusesItsName: whatever else a block has, a name that is known, or waits, isn't taken again.
func TestAddRefusesItsName(t *testing.T) {
	x := grown(t)
	for _, slot := range []int{1, 2, 3, 4, 5, 6, 10, 12, 13} {
		for _, parent := range []int{0, n(1), n(3), n(9), n(11), n(12), nameOf(1, 1, 1)} {
			if parent>>16 < slot {
				refuses(t, x, on(parent, slot))
				refuses(t, x, api.Block{Slot: slot, Parent: parent, Txs: []api.Tx{{ID: 5}}})
			}
		}
	}
	adds(t, x, api.Block{Slot: 1, Miner: 1}, nameOf(1, 1, 0))
	adds(t, x, api.Block{Slot: 1, Variant: 1}, nameOf(1, 0, 1))
	adds(t, x, api.Block{Slot: 12, Variant: 1, Parent: n(11)})
	refuses(t, x, api.Block{Slot: 12, Variant: 1})
}

func TestAddKnows(t *testing.T) {
	x := grown(t)
	want := look{names: []int{n(1), n(2), n(3), n(4), n(5), n(6)}, waiting: []int{n(12), n(10), n(13)}, missing: []int{n(9), n(11)}, tip: n(4)}
	is(t, x, want)
	adds(t, x, on(0, 4095), n(4095))
	adds(t, x, on(n(5), 7), n(7))
	want.names, want.tip = append(want.names, n(7), n(4095)), n(7)
	is(t, x, want)
}

// TestAddOrder: of all that are ready the one that came first is known, and then it is asked again.
func TestAddOrder(t *testing.T) {
	for _, c := range []struct {
		come  []api.Block
		known []int
	}{
		// All on the one that is missing, in the order in which they came, whatever their names.
		{[]api.Block{on(n(1), 5), on(n(1), 3), on(n(1), 4), on(0, 1)}, []int{1, 5, 3, 4}},
		// One that came early, but is ready late, goes ahead of all behind it then.
		{[]api.Block{on(n(4), 9), on(n(1), 5), on(n(1), 4), on(n(1), 3), on(0, 1)}, []int{1, 5, 4, 9, 3}},
		{[]api.Block{on(n(5), 9), on(n(1), 5), on(n(1), 4), on(n(1), 3), on(0, 1)}, []int{1, 5, 9, 4, 3}},
		// A way from its end to its beginning.
		{[]api.Block{on(n(4), 5), on(n(3), 4), on(n(2), 3), on(n(1), 2), on(0, 1)}, []int{1, 2, 3, 4, 5}},
		{[]api.Block{on(n(1), 2), on(n(2), 3), on(n(3), 4), on(n(4), 5), on(0, 1)}, []int{1, 2, 3, 4, 5}},
		{[]api.Block{on(n(2), 3), on(n(2), 4), on(n(3), 6), on(n(1), 2), on(n(4), 7), on(n(1), 5), on(0, 1)}, []int{1, 2, 3, 4, 6, 7, 5}},
		// What stands on something else waits on.
		{[]api.Block{on(n(1), 5), on(n(2), 3), on(n(1), 4), on(0, 1)}, []int{1, 5, 4}},
	} {
		x := New()
		last := len(c.come) - 1
		for _, b := range c.come[:last] {
			adds(t, x, b)
		}
		var want []int
		for _, slot := range c.known {
			want = append(want, n(slot))
		}
		adds(t, x, c.come[last], want...)
		if w := x.Waiting(); len(w) != len(c.come)-len(c.known) {
			t.Errorf("%v: %v wait", c.come, w)
		}
	}
}

// TestWaitingOnWaiting: what stands on one that waits, waits behind it, and isn't known ahead of it.
func TestWaitingOnWaiting(t *testing.T) {
	x := grown(t)
	adds(t, x, on(0, 11), n(11), n(12), n(13))
	is(t, x, look{names: []int{n(1), n(2), n(3), n(4), n(5), n(6), n(11), n(12), n(13)}, waiting: []int{n(10)}, missing: []int{n(9)}, tip: n(4)})
	adds(t, x, on(n(4), 9), n(9), n(10))
	is(t, x, look{names: []int{n(1), n(2), n(3), n(4), n(5), n(6), n(9), n(10), n(11), n(12), n(13)}, tip: n(10)})
}

func TestHasAndGet(t *testing.T) {
	x := New()
	come := []api.Block{
		{Slot: 1, Miner: 2, Variant: 3, Txs: []api.Tx{{ID: 1, Fee: 5}, {ID: 2}}},
		{Slot: 3, Miner: 6, Variant: 255, Parent: 66051},
		{Slot: 4095, Miner: 1, Parent: nameOf(3, 6, 255), Txs: []api.Tx{{ID: 1000000, Fee: 1000}}},
		{Slot: 9, Parent: n(8), Txs: []api.Tx{{ID: 7}}},
	}
	for _, b := range come {
		x.Add(b)
	}
	for i, b := range come {
		known := i < 3
		got, ok := x.Get(block.Name(b))
		if ok != known || x.Has(block.Name(b)) != known || known && !block.Same(got, b) || !known && !block.Same(got, api.Block{}) {
			t.Errorf("of %v: %v %t", b, got, ok)
		}
	}
	for _, name := range []int{0, 1, -1, n(8), 66050, 66052, -66051, 66051 + 1<<32, math.MinInt, math.MaxInt} {
		if got, ok := x.Get(name); ok || x.Has(name) || !block.Same(got, api.Block{}) {
			t.Errorf("of %d: %v %t", name, got, ok)
		}
	}
	adds(t, x, on(0, 8), n(8), n(9))
	if got, ok := x.Get(n(9)); !ok || !block.Same(got, come[3]) {
		t.Error("what waited is known as", got)
	}
}

// TestMissing: each once, rising, and none that waits itself.
func TestMissing(t *testing.T) {
	x := New()
	for _, b := range []api.Block{on(n(30), 40), on(n(20), 41), on(n(30), 42), on(n(40), 43), on(n(20), 44), on(n(10), 45), on(n(45), 46), on(n(30), 47)} {
		adds(t, x, b)
	}
	is(t, x, look{waiting: []int{n(40), n(41), n(42), n(43), n(44), n(45), n(46), n(47)}, missing: []int{n(10), n(20), n(30)}})
	adds(t, x, on(0, 20), n(20), n(41), n(44))
	is(t, x, look{names: []int{n(20), n(41), n(44)}, waiting: []int{n(40), n(42), n(43), n(45), n(46), n(47)}, missing: []int{n(10), n(30)}, tip: n(41)})
	adds(t, x, on(n(9), 30))
	is(t, x, look{names: []int{n(20), n(41), n(44)}, waiting: []int{n(40), n(42), n(43), n(45), n(46), n(47), n(30)}, missing: []int{n(9), n(10)}, tip: n(41)})
}

func TestTip(t *testing.T) {
	x := New()
	for _, c := range []struct {
		b   api.Block
		tip int
	}{
		{on(0, 9), n(9)},
		// Lesser names of the same height, greater ones not.
		{on(0, 8), n(8)},
		{on(0, 10), n(8)},
		{api.Block{Slot: 8, Variant: 1}, n(8)},
		{api.Block{Slot: 7, Miner: 6, Variant: 255}, nameOf(7, 6, 255)},
		// A greater height beats all names.
		{on(n(10), 4095), n(4095)},
		{on(0, 1), n(4095)},
		{on(n(9), 4094), n(4094)},
		{api.Block{Slot: 4094, Miner: 1, Parent: n(1)}, n(4094)},
		{on(n(1), 2), n(2)},
		// What waits doesn't count.
		{on(n(20), 21), n(2)},
		{on(n(4094), 4095), n(2)},
		{api.Block{Slot: 4095, Miner: 1, Parent: n(4094)}, nameOf(4095, 1, 0)},
		{on(n(2), 20), n(21)},
	} {
		x.Add(c.b)
		if x.Tip() != c.tip {
			t.Errorf("behind %v: %d, not %d", c.b, x.Tip(), c.tip)
		}
	}
}
