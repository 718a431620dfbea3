package node

import (
	"math"
	"slices"
	"testing"

	"neaptide/api"
	"neaptide/disk"
)

// TestClock: it is the slot, if that is a later one, and none is made in it any more.
func TestClock(t *testing.T) {
	n := New(miner(3, 4), disk.New(1000))
	for _, c := range [][2]int{{0, 0}, {-1, 0}, {3, 3}, {2, 3}, {3, 3}, {math.MinInt, 3}, {5, 5}} {
		n.Clock(c[0])
		tells(t, "the clock", n, look{slot: c[1]})
	}
	sends(t, "a tick of that slot", n.Tick(5))
	sends(t, "a tick of an earlier one", n.Tick(4))
	tells(t, "a tick of an earlier one", n, look{slot: 5})
	sends(t, "a tick of a later one", n.Tick(6), all(blockOf(3, on(0, 6, 3))))
	n.Clock(200)
	sends(t, "behind the last one", n.Tick(201), all(blockOf(3, on(0, 6, 3))))
	n.Clock(math.MaxInt)
	tells(t, "the last of all", n, look{slot: math.MaxInt, tip: of(6, 3), confirmed: of(6, 3)})
}

// TestTickSlots: a block is made in a later slot only, and once.
func TestTickSlots(t *testing.T) {
	d := disk.New(1000)
	n := New(miner(3, 4), d)
	for _, slot := range []int{math.MinInt, -1, 0} {
		sends(t, "no slot", n.Tick(slot))
		tells(t, "no slot", n, look{})
	}
	one, two := on(0, 2, 3), on(of(2, 3), 5, 3)
	sends(t, "slot 2", n.Tick(2), all(blockOf(3, one)))
	holds(t, "slot 2", d, 1, recOf(t, one))
	for _, slot := range []int{2, 1, 0, -5, math.MinInt, 2} {
		sends(t, "again", n.Tick(slot), all(blockOf(3, one)))
		tells(t, "again", n, look{slot: 2, tip: of(2, 3), confirmed: of(2, 3)})
	}
	sends(t, "slot 5", n.Tick(5), all(blockOf(3, two)))
	holds(t, "slot 5", d, 2, recOf(t, one), recOf(t, two))
	tells(t, "slot 5", n, look{slot: 5, tip: of(5, 3), confirmed: of(5, 3)})
	sends(t, "far", n.Tick(math.MaxInt), all(blockOf(3, two)))
	tells(t, "far", n, look{slot: math.MaxInt, tip: of(5, 3), confirmed: of(5, 3)})
}

// TestTickWins: it makes a block in those slots alone in which it wins.
func TestTickWins(t *testing.T) {
	s := who(2, 4)
	s.Draws = []int{4, 3, 7, 8, 0, 4}
	n := New(s, disk.New(1000))
	var got []int
	for slot := 1; slot <= 9; slot++ {
		n.Tick(slot)
		if tip := n.Tip(); tip != 0 && !slices.Contains(got, tip) {
			got = append(got, tip)
		}
	}
	if want := []int{of(1, 2), of(3, 2), of(6, 2)}; !slices.Equal(got, want) {
		t.Error("made are", got)
	}
}

// TestTickMakes: a block has the first three of the pool that aren't on its way, and these are dropped; what is on its way and in the pool stays there.
func TestTickMakes(t *testing.T) {
	d := disk.New(1000)
	n := New(miner(3, 4), d)
	n.Clock(1)
	hand(t, n, blockOf(0, on(0, 1, 0, 5)))
	for _, x := range []api.Tx{{ID: 1, Fee: 1}, {ID: 2, Fee: 9}, {ID: 3, Fee: 4}, {ID: 4, Fee: 9}, {ID: 5, Fee: 10}} {
		n.Submit(x)
	}
	b := api.Block{Slot: 2, Miner: 3, Parent: of(1, 0), Txs: []api.Tx{{ID: 2, Fee: 9}, {ID: 4, Fee: 9}, {ID: 3, Fee: 4}}}
	sends(t, "the first three", n.Tick(2), all(blockOf(3, b)))
	holds(t, "the first three", d, 2, recOf(t, on(0, 1, 0, 5)), recOf(t, b))
	tells(t, "the first three", n, look{slot: 2, tip: of(2, 3), confirmed: of(2, 3), avail: []int{5, 2, 4, 3}, pool: []api.Tx{{ID: 5, Fee: 10}, {ID: 1, Fee: 1}}})
	b = api.Block{Slot: 3, Miner: 3, Parent: of(2, 3), Txs: []api.Tx{{ID: 1, Fee: 1}}}
	sends(t, "the one that is left", n.Tick(3), all(blockOf(3, b)))
	tells(t, "the one that is left", n, look{slot: 3, tip: of(3, 3), confirmed: of(3, 3), avail: []int{5, 2, 4, 3, 1}, pool: []api.Tx{{ID: 5, Fee: 10}}})
}

// TestTickSyncs: what is made is synced with all that came before, also where no vote is.
func TestTickSyncs(t *testing.T) {
	d := disk.New(1000)
	s := miner(3, 4)
	s.Draws = []int{127, 127 &^ 8, 127}
	n := New(s, d)
	n.Tick(1)
	n.Clock(2)
	hand(t, n, blockOf(0, on(of(1, 3), 2, 0)))
	l := []api.Rec{recOf(t, on(0, 1, 3)), recOf(t, on(of(1, 3), 2, 0))}
	holds(t, "a block comes", d, 1, l...)
	n.Tick(2)
	holds(t, "none is made", d, 1, l...)
	n.Tick(3)
	holds(t, "one is made", d, 3, append(l, recOf(t, on(of(2, 0), 3, 3)))...)
}

// TestTickTip: the highest block is sent with each tick, once.
func TestTickTip(t *testing.T) {
	s := miner(3, 4)
	s.Draws = []int{127, 127, 127 &^ 8, 127}
	n := New(s, disk.New(1000))
	one, two, three := on(0, 1, 0), on(of(1, 0), 2, 3), on(of(1, 0), 3, 2)
	n.Clock(1)
	hand(t, n, blockOf(0, one))
	sends(t, "another's", n.Tick(1), all(blockOf(3, one)))
	sends(t, "its own, made now", n.Tick(2), all(blockOf(3, two)))
	sends(t, "its own, made earlier", n.Tick(3), all(blockOf(3, two)))
	hand(t, n, blockOf(0, three))
	sends(t, "beside it", n.Tick(3), all(blockOf(3, two)))
	hand(t, n, blockOf(1, on(of(3, 2), 4, 1)))
	sends(t, "of a later slot", n.Tick(3), all(blockOf(3, two)))
	n.Clock(4)
	hand(t, n, blockOf(1, on(of(3, 2), 4, 1)))
	sends(t, "on another one", n.Tick(4), all(blockOf(3, on(of(3, 2), 4, 1))))
}

// TestTickOrder: first what it makes, then what it votes, on what is confirmed; then the tip, then what it asks for.
func TestTickOrder(t *testing.T) {
	for deep, value := range []int{of(3, 0), of(2, 1), of(1, 2), 0, 0} {
		s := miner(0, 4)
		s.Deep = deep
		s.Draws = []int{4, 2, 1, 12, 0}
		n := New(s, disk.New(1000))
		n.Clock(2)
		hand(t, n, blockOf(1, on(0, 1, 2)), blockOf(2, on(of(1, 2), 2, 1)), decidedOf(2, 0, of(4, 2)))
		b := on(of(2, 1), 3, 0)
		sends(t, "made", n.Tick(3), all(blockOf(0, b)), all(proposeOf(0, 0, 0, value, -1)), all(prepareOf(0, 0, 0, value)), to(1, askOf(0, of(4, 2))))
		sends(t, "again", n.Tick(4), all(proposeOf(0, 0, 0, value, -1)), all(prepareOf(0, 0, 0, value)), all(blockOf(0, b)), to(2, askOf(0, of(4, 2))))
	}
}

// TestTickKnows: it votes for what it knows, and what it makes it knows.
func TestTickKnows(t *testing.T) {
	s := miner(1, 2)
	s.Base, s.Most = 2, 2
	d := disk.New(1000)
	n := New(s, d)
	sends(t, "begun", n.Tick(1), all(blockOf(1, on(0, 1, 1))))
	sends(t, "what isn't known", hand(t, n, proposeOf(0, 0, 0, of(2, 0), -1)))
	sends(t, "asked for", n.Tick(1), all(blockOf(1, on(0, 1, 1))), to(0, askOf(1, of(2, 0))))
	n.Clock(2)
	sends(t, "it comes", hand(t, n, blockOf(0, on(of(1, 1), 2, 0))))
	sends(t, "known", n.Tick(2), all(prepareOf(1, 0, 0, -1)), all(blockOf(1, on(of(1, 1), 2, 0))))

	n = New(s, disk.New(1000))
	n.Tick(1)
	hand(t, n, proposeOf(0, 0, 0, of(2, 0), -1))
	n.Clock(2)
	hand(t, n, blockOf(0, on(of(1, 1), 2, 0)))
	sends(t, "known", hand(t, n, txOf(0, 1, 1), proposeOf(0, 0, 0, of(2, 0), -1)), all(prepareOf(1, 0, 0, of(2, 0))))
}

// TestTickAsks: eight are asked for with each tick, one peer after the other.
func TestTickAsks(t *testing.T) {
	n := New(who(1, 3), disk.New(1000))
	var first, second []api.Act
	for i := range 10 {
		hand(t, n, decidedOf(0, 0, of(10-i, 0)))
		if i < 8 {
			first, second = append(first, to(2, askOf(1, of(10-i, 0)))), append(second, to(0, askOf(1, of(10-i, 0))))
		}
	}
	for range 3 {
		sends(t, "the first peer", n.Tick(0), first...)
		sends(t, "the second peer", n.Tick(0), second...)
	}
}
