package tree

import (
	"slices"
	"testing"

	"neaptide/api"
	"neaptide/block"
)

// upTo answers a tree in which the slots 1 to many stand on nothing.
func upTo(t *testing.T, many int) *Tree {
	t.Helper()
	x := New()
	for slot := 1; slot <= many; slot++ {
		adds(t, x, on(0, slot), n(slot))
	}
	return x
}

func TestMaxBlocks(t *testing.T) {
	x := upTo(t, 400)
	if names := x.Names(); len(names) != 400 || names[0] != n(1) || names[399] != n(400) {
		t.Error(len(names), "are known")
	}
	for _, b := range []api.Block{on(0, 401), on(n(400), 401), on(n(1), 401), {Slot: 1, Miner: 1}} {
		refuses(t, x, b)
		refuses(t, x, b)
	}
	// What stands on one that isn't there waits all the same.
	adds(t, x, on(n(500), 501))
	adds(t, x, on(n(401), 402))
	if !slices.Equal(x.Waiting(), []int{n(501), n(402)}) || !slices.Equal(x.Missing(), []int{n(401), n(500)}) {
		t.Error(x.Waiting(), x.Missing())
	}
	refuses(t, x, on(0, 401))
	refuses(t, x, on(n(400), 500))
	if len(x.Names()) != 400 || x.Tip() != n(1) {
		t.Error(len(x.Names()), "are known, the tip is", x.Tip())
	}
}

// TestMaxBlocksOfReady: what waits is known as far as there is room; what is ready, but has none, is gone.
func TestMaxBlocksOfReady(t *testing.T) {
	for room := 1; room <= 6; room++ {
		x := upTo(t, 400-room)
		adds(t, x, on(n(1000), 1001))
		adds(t, x, on(n(900), 902))
		adds(t, x, on(n(902), 904))
		adds(t, x, on(n(900), 901))
		adds(t, x, on(n(901), 903))
		// In their order: 900, 902, 904, 901, 903; who stands on one that is gone waits on.
		order := []int{n(900), n(902), n(904), n(901), n(903)}
		adds(t, x, on(n(1), 900), order[:min(room, 5)]...)
		waiting := [][]int{1: {n(1001), n(904), n(903)}, 2: {n(1001), n(903)}, 3: {n(1001), n(903)}, 4: {n(1001)}, 5: {n(1001)}, 6: {n(1001)}}[room]
		if !slices.Equal(x.Waiting(), waiting) {
			t.Errorf("room for %d: %v wait, not %v", room, x.Waiting(), waiting)
		}
		missing := [][]int{1: {n(901), n(902), n(1000)}, 2: {n(901), n(1000)}, 3: {n(901), n(1000)}, 4: {n(1000)}, 5: {n(1000)}, 6: {n(1000)}}[room]
		if !slices.Equal(x.Missing(), missing) {
			t.Errorf("room for %d: %v are missing, not %v", room, x.Missing(), missing)
		}
		if many := len(x.Names()); many != min(400, 405-room) {
			t.Errorf("room for %d: %d are known", room, many)
		}
		for i, name := range order {
			if x.Has(name) != (i < room) {
				t.Errorf("room for %d: %d is known: %t", room, name, x.Has(name))
			}
		}
	}
}

// TestGoneCanCome: what is gone for want of room neither is known nor waits, so that it is another one, if it comes again.
func TestGoneCanCome(t *testing.T) {
	x := upTo(t, 399)
	adds(t, x, on(n(900), 901))
	adds(t, x, on(n(901), 902))
	adds(t, x, on(0, 900), n(900))
	refuses(t, x, on(n(900), 901))
	adds(t, x, on(n(800), 901))
	if !slices.Equal(x.Waiting(), []int{n(902), n(901)}) || !slices.Equal(x.Missing(), []int{n(800)}) {
		t.Error(x.Waiting(), x.Missing())
	}
}

func TestMaxOrphans(t *testing.T) {
	x := upTo(t, 1)
	var want []int
	for i := range 50 {
		slot := 100 + i*7%50
		adds(t, x, api.Block{Slot: slot, Parent: nameOf(50+i%3, 1, 0)})
		want = append(want, n(slot))
		want = want[max(len(want)-16, 0):]
		if !slices.Equal(x.Waiting(), want) {
			t.Errorf("behind %d: %v wait, not %v", i+1, x.Waiting(), want)
		}
		refuses(t, x, on(0, slot))
	}
	is(t, x, look{names: []int{n(1)}, waiting: want, missing: []int{nameOf(50, 1, 0), nameOf(51, 1, 0), nameOf(52, 1, 0)}, tip: n(1)})
}

// TestOrphansGo: the one that came first is gone, and what stands on it waits for it again.
func TestOrphansGo(t *testing.T) {
	x := New()
	adds(t, x, on(n(10), 20))
	adds(t, x, on(n(20), 21))
	for slot := 30; slot < 44; slot++ {
		adds(t, x, on(n(11), slot))
	}
	if !slices.Equal(x.Missing(), []int{n(10), n(11)}) || len(x.Waiting()) != 16 {
		t.Error(x.Waiting(), x.Missing())
	}
	adds(t, x, on(n(12), 44))
	if !slices.Equal(x.Missing(), []int{n(11), n(12), n(20)}) || len(x.Waiting()) != 16 || x.Waiting()[0] != n(21) {
		t.Error(x.Waiting(), x.Missing())
	}
	adds(t, x, on(0, 10), n(10))
	adds(t, x, on(n(10), 20), n(20), n(21))
	if len(x.Waiting()) != 15 || x.Tip() != n(21) {
		t.Error(x.Waiting(), x.Tip())
	}
	// It has gone as a whole: there is room for one more now.
	adds(t, x, on(n(13), 45))
	if len(x.Waiting()) != 16 || x.Waiting()[0] != n(30) {
		t.Error(x.Waiting())
	}
}

// TestOrphanIsKnownAhead: a block that is ready at once pushes none out of those that wait.
func TestOrphanIsKnownAhead(t *testing.T) {
	x := New()
	for slot := 30; slot < 46; slot++ {
		adds(t, x, on(n(11), slot))
	}
	adds(t, x, on(0, 5), n(5))
	adds(t, x, on(n(5), 6), n(6))
	if w := x.Waiting(); len(w) != 16 || w[0] != n(30) {
		t.Error(w)
	}
	want := []int{n(11)}
	for slot := 30; slot < 46; slot++ {
		want = append(want, n(slot))
	}
	adds(t, x, on(n(6), 11), want...)
	if len(x.Waiting()) != 0 || x.Height(n(45)) != 4 || x.Tip() != n(30) {
		t.Error(x.Waiting(), x.Height(n(45)), x.Tip())
	}
}

// TestLongest: a way of as many blocks as can be known.
func TestLongest(t *testing.T) {
	x := New()
	var way []int
	for slot := 1; slot <= 400; slot++ {
		parent := 0
		if slot > 1 {
			parent = way[len(way)-1]
		}
		b := api.Block{Slot: slot * 10, Miner: slot % 7, Variant: slot % 256, Parent: parent}
		adds(t, x, b, block.Name(b))
		way = append(way, block.Name(b))
	}
	end := way[399]
	if x.Height(end) != 400 || !slices.Equal(x.Path(end), way) || x.Tip() != end || !slices.Equal(x.Names(), way) {
		t.Error("the way to", end, "has", x.Height(end))
	}
	for i, name := range way {
		if x.Back(end, 399-i) != name || x.Common(name, end) != name || x.Height(name) != i+1 {
			t.Error("block", i, "is", x.Back(end, 399-i), x.Common(name, end), x.Height(name))
		}
	}
}
