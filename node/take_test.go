package node

import (
	"slices"
	"testing"

	"neaptide/api"
	"neaptide/disk"
)

// TestTake: a block that stands on what is known is known, and written, but not synced.
func TestTake(t *testing.T) {
	d := disk.New(1000)
	n := New(who(1, 4), d)
	n.Clock(5)
	one, two, beside := on(0, 1, 0, 7, 8, 9), on(of(1, 0), 3, 2), on(0, 3, 0, 4)
	sends(t, "one", hand(t, n, blockOf(3, one)))
	holds(t, "one", d, 0, recOf(t, one))
	tells(t, "one", n, look{slot: 5, tip: of(1, 0), confirmed: of(1, 0), avail: []int{7, 8, 9}})
	sends(t, "two", hand(t, n, blockOf(0, two), blockOf(2, beside)))
	holds(t, "two", d, 0, recOf(t, one), recOf(t, two), recOf(t, beside))
	tells(t, "two", n, look{slot: 5, tip: of(3, 2), confirmed: of(3, 2), avail: []int{7, 8, 9}})
}

// TestTakeRefused: what can't stand here now changes nothing, and has nothing wanted.
func TestTakeRefused(t *testing.T) {
	d := disk.New(1000)
	n := New(who(1, 4), d)
	n.Clock(5)
	n.Submit(api.Tx{ID: 7})
	hand(t, n, blockOf(0, on(0, 1, 0)), blockOf(0, on(of(2, 2), 3, 0)))
	want := look{slot: 5, tip: of(1, 0), confirmed: of(1, 0), pool: []api.Tx{{ID: 7}}}
	for name, b := range map[string]api.Block{
		"known":             on(0, 1, 0, 7),
		"waits":             on(of(1, 0), 3, 0, 7),
		"of a later slot":   on(of(1, 0), 6, 0, 7),
		"doesn't win":       on(of(1, 0), 2, 1, 7),
		"behind all slots":  on(of(1, 0), 201, 0, 7),
		"on a missing one":  on(of(3, 3), 4, 1, 7),
		"later, on nothing": on(of(3, 2), 6, 0, 7),
	} {
		sends(t, name, hand(t, n, blockOf(2, b)))
		tells(t, name, n, want)
		holds(t, name, d, 0, recOf(t, on(0, 1, 0)))
	}
	sends(t, "the asks", n.Tick(5), all(blockOf(1, on(0, 1, 0))), to(2, askOf(1, of(2, 2))))
}

// TestTakeOrphans: what waits isn't written, till what it stands on comes: then all are, in the order in which they are known.
func TestTakeOrphans(t *testing.T) {
	d := disk.New(1000)
	n := New(who(1, 4), d)
	n.Clock(9)
	one, two, three, four := on(0, 1, 0, 3), on(of(1, 0), 2, 0, 4), on(of(2, 0), 3, 2, 5), on(of(2, 0), 3, 0, 6)
	for id := 3; id <= 8; id++ {
		n.Submit(api.Tx{ID: id})
	}
	hand(t, n, blockOf(0, three), blockOf(0, four))
	holds(t, "they wait", d, 0)
	if len(n.Pool()) != 6 {
		t.Error("in the pool are", n.Pool())
	}
	hand(t, n, blockOf(0, one))
	holds(t, "one comes", d, 0, recOf(t, one))
	hand(t, n, blockOf(0, two))
	holds(t, "two comes", d, 0, recOf(t, one), recOf(t, two), recOf(t, three), recOf(t, four))
	tells(t, "two comes", n, look{slot: 9, tip: of(3, 0), confirmed: of(3, 0), avail: []int{3, 4, 6}, pool: []api.Tx{{ID: 7}, {ID: 8}}})
}

// TestTakeWants: what is missing is wanted, rising, and no more when it is known.
func TestTakeWants(t *testing.T) {
	n := New(who(1, 4), disk.New(1000))
	n.Clock(9)
	sends(t, "waits", hand(t, n, blockOf(0, on(of(5, 0), 6, 0))))
	sends(t, "one", n.Tick(9), to(2, askOf(1, of(5, 0))))
	hand(t, n, blockOf(0, on(of(4, 0), 6, 2)), blockOf(0, on(of(3, 0), 5, 0)))
	sends(t, "what is wanted, and waits itself", n.Tick(9), to(3, askOf(1, of(5, 0))), to(2, askOf(1, of(4, 0))), to(2, askOf(1, of(3, 0))))
	hand(t, n, blockOf(0, on(0, 4, 0)))
	tip := all(blockOf(1, on(of(4, 0), 6, 2)))
	sends(t, "one is known", n.Tick(9), tip, to(0, askOf(1, of(5, 0))), to(3, askOf(1, of(3, 0))))
	hand(t, n, blockOf(0, on(0, 3, 0)))
	sends(t, "all are known", n.Tick(9), all(blockOf(1, on(of(5, 0), 6, 0))))
}

// TestTakeWantsRising: those that are missing when one block comes are wanted from the least on.
func TestTakeWantsRising(t *testing.T) {
	n := New(who(1, 4), recsOf(t, recOf(t, on(of(5, 0), 6, 0)), recOf(t, on(of(2, 0), 6, 2)), recOf(t, on(of(4, 0), 6, 3))))
	hand(t, n, blockOf(0, on(of(3, 0), 5, 2)))
	sends(t, "four", n.Tick(6), to(2, askOf(1, of(2, 0))), to(2, askOf(1, of(3, 0))), to(2, askOf(1, of(4, 0))), to(2, askOf(1, of(5, 0))))
}

// TestTakeGot: of what comes all that is known is got, also what waited.
func TestTakeGot(t *testing.T) {
	n := New(who(1, 4), disk.New(1000))
	n.Clock(9)
	hand(t, n, decidedOf(0, 0, of(2, 0)), decidedOf(2, 1, of(1, 0)), decidedOf(2, 0, of(3, 0)), decidedOf(2, 2, of(4, 0)))
	sends(t, "wanted", n.Tick(9), to(2, askOf(1, of(2, 0))), to(2, askOf(1, of(1, 0))), to(2, askOf(1, of(3, 0))), to(2, askOf(1, of(4, 0))))
	hand(t, n, blockOf(0, on(of(1, 0), 2, 0)))
	sends(t, "one waits", n.Tick(9), to(3, askOf(1, of(2, 0))), to(3, askOf(1, of(1, 0))), to(3, askOf(1, of(3, 0))), to(3, askOf(1, of(4, 0))))
	hand(t, n, blockOf(0, on(0, 1, 0)))
	sends(t, "both are known", n.Tick(9), all(blockOf(1, on(of(1, 0), 2, 0))), to(0, askOf(1, of(3, 0))), to(0, askOf(1, of(4, 0))))
}

// TestTakeDrops: of the pool go the transactions of what is known, whatever they pay.
func TestTakeDrops(t *testing.T) {
	n := New(who(1, 4), disk.New(1000))
	n.Clock(9)
	for id := 1; id <= 6; id++ {
		n.Submit(api.Tx{ID: id, Fee: 9})
	}
	hand(t, n, blockOf(0, on(0, 1, 0, 6, 2)))
	if want := []api.Tx{{ID: 1, Fee: 9}, {ID: 3, Fee: 9}, {ID: 4, Fee: 9}, {ID: 5, Fee: 9}}; !slices.Equal(n.Pool(), want) {
		t.Error("in the pool are", n.Pool())
	}
	hand(t, n, blockOf(0, on(0, 2, 0, 5, 2, 40)), blockOf(0, on(of(1, 2), 2, 2, 1)))
	if want := []api.Tx{{ID: 1, Fee: 9}, {ID: 3, Fee: 9}, {ID: 4, Fee: 9}}; !slices.Equal(n.Pool(), want) {
		t.Error("in the pool are", n.Pool())
	}
	// What was in a block is no more refused than anything else.
	hand(t, n, txOf(0, 6, 3))
	if n.Pool()[3] != (api.Tx{ID: 6, Fee: 3}) {
		t.Error("in the pool are", n.Pool())
	}
}

// fill hands in so many blocks that no more can be known.
func fill(t *testing.T, n *Node) []api.Rec {
	t.Helper()
	var recs []api.Rec
	for i := range api.MaxBlocks {
		b := api.Block{Slot: 1, Miner: i / 256, Variant: i % 256}
		hand(t, n, blockOf(3, b))
		recs = append(recs, recOf(t, b))
	}
	return recs
}

// TestFull: where as many are known as can be, none is taken.
func TestFull(t *testing.T) {
	d := disk.New(api.MaxDisk)
	n := New(who(2, 4), d)
	n.Clock(9)
	recs := fill(t, n)
	hand(t, n, blockOf(0, on(of(1, 0), 2, 0, 6)))
	holds(t, "one more", d, 0, recs...)
	hand(t, n, blockOf(0, on(of(2, 0), 3, 0, 6)))
	holds(t, "one that waits", d, 0, recs...)
	tells(t, "full", n, look{slot: 9, tip: of(1, 0), confirmed: of(1, 0)})
	sends(t, "full", n.Tick(9), all(blockOf(2, on(0, 1, 0))), to(3, askOf(2, of(2, 0))))
}

// TestFullMakes: what it makes when there is no room for it is sent all the same, and behind a crash no unlike one is.
func TestFullMakes(t *testing.T) {
	d := disk.New(api.MaxDisk)
	s := miner(2, 4)
	n := New(s, d)
	n.Clock(9)
	many := len(fill(t, n))
	n.Submit(api.Tx{ID: 5, Fee: 5})
	sends(t, "made", n.Tick(10), all(blockOf(2, on(of(1, 0), 10, 2, 5))), all(blockOf(2, on(0, 1, 0))))
	tells(t, "made", n, look{slot: 10, tip: of(1, 0), confirmed: of(1, 0), pool: []api.Tx{{ID: 5, Fee: 5}}})
	if d.Synced() != len(d.Bytes()) {
		t.Error("synced is", d.Synced())
	}
	for range 3 {
		d.Crash(0)
		n = New(s, d)
		if names := n.chain.Tree().Names(); len(names) != many {
			t.Error("known are", len(names))
		}
		n.Submit(api.Tx{ID: 6, Fee: 6})
		sends(t, "no other one", n.Tick(10), all(blockOf(2, on(0, 1, 0))))
	}
	sends(t, "the next slot", n.Tick(11), all(blockOf(2, on(of(1, 0), 11, 2, 6))), all(blockOf(2, on(0, 1, 0))))
}
