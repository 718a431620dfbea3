package cluster

import (
	"bytes"
	"math"
	"slices"
	"testing"

	"neaptide/api"
	"neaptide/disk"
	"neaptide/journal"
)

// nobody are those that no step of a node can be of: a bad one, 3, of four, and no nodes.
var nobody = append([]int{3, 4}, far...)

// TestNobody: a step of one that isn't honest does nothing.
func TestNobody(t *testing.T) {
	c := begin(t, so(4, 3))
	does(t, "something is there", c, tick(), sleep(1), crash(2, 0))
	data := dataOf(t, txOf(3, 9, 9))
	for _, i := range nobody {
		doesNot(t, "nobody", c, submit(i, 5, 1), sleep(i), wake(i), crash(i, 0), start(i), room(i, 0), inject(i, data))
	}
}

// TestSubmit: a transaction is handed in, and goes to all.
func TestSubmit(t *testing.T) {
	c := begin(t, so(4))
	for _, x := range []api.Tx{{ID: 0}, {ID: -1, Fee: 1}, {ID: 1000001}, {ID: 5, Fee: -1}, {ID: 5, Fee: 1001}, {ID: math.MaxInt, Fee: math.MinInt}, {}} {
		doesNot(t, "it can't be", c, api.Step{Kind: api.StepSubmit, Node: 1, Tx: x})
	}
	does(t, "it can be", c, submit(1, 5, 1), submit(1, 1000000, 1000), submit(1, 1, 0))
	doesNot(t, "it is there", c, submit(1, 5, 1), submit(1, 5, 2), submit(1, 1, 0))
	var want []saying
	for _, m := range []api.Msg{txOf(1, 5, 1), txOf(1, 1000000, 1000), txOf(1, 1, 0)} {
		want = append(want, saying{1, 0, m}, saying{1, 2, m}, saying{1, 3, m})
	}
	isOnWay(t, "what was handed in", c, want...)
	for id := range api.MaxPool - 3 {
		does(t, "more of them", c, submit(1, 10+id, 5))
	}
	doesNot(t, "there is no room", c, submit(1, 99, 0))
	does(t, "it pays more than the last one", c, submit(1, 99, 1))
	doesNot(t, "there is no room", c, submit(1, 100, 0))
	does(t, "in another one there is", c, submit(2, 100, 0))
}

// TestSubmitWhom: only one that is up and awake has transactions handed in.
func TestSubmitWhom(t *testing.T) {
	c := begin(t, so(4))
	does(t, "1 sleeps", c, sleep(1))
	doesNot(t, "it sleeps", c, submit(1, 5, 1))
	does(t, "1 sleeps, and doesn't run", c, crash(1, 0))
	doesNot(t, "it sleeps and doesn't run", c, submit(1, 5, 1))
	does(t, "1 doesn't run", c, wake(1))
	doesNot(t, "it doesn't run", c, submit(1, 5, 1))
	does(t, "1 runs", c, start(1), submit(1, 5, 1), submit(0, 6, 1), room(0, 0), tick())
	if c.Up(0) {
		t.Fatal("node 0 has room for a block")
	}
	doesNot(t, "it is down", c, submit(0, 7, 1))
}

// TestSubmitFull: where no parcel has room, it is handed in all the same.
func TestSubmitFull(t *testing.T) {
	c := begin(t, so(4))
	does(t, "one", c, submit(1, 5, 1))
	fill(t, c)
	before := wayOf(c)
	does(t, "one more", c, submit(2, 6, 1), submit(1, 6, 1))
	isWay(t, "there was no room", c, before)
	doesNot(t, "it is there", c, submit(2, 6, 1), submit(1, 6, 1))
}

// TestSleep: one that is awake sleeps, and one that sleeps wakes; whether it runs doesn't matter.
func TestSleep(t *testing.T) {
	c := begin(t, so(4, 3))
	awake := []bool{true, true, true, false}
	is := func(what string) {
		t.Helper()
		for i, want := range awake {
			if c.Awake(i) != want {
				t.Errorf("%s: node %d awake: %v", what, i, c.Awake(i))
			}
		}
	}
	for _, x := range []struct {
		what   string
		before api.Step
	}{{"it runs", cut(0)}, {"in another slot", tick()}, {"it doesn't run", crash(1, 0)}, {"in another slot it doesn't", tick()}, {"it runs again", start(1)}, {"it has no room", room(1, 0)}} {
		what := x.what
		does(t, what, c, x.before)
		doesNot(t, what, c, wake(1))
		does(t, what, c, sleep(1))
		awake[1] = false
		is(what)
		doesNot(t, what, c, sleep(1))
		does(t, what, c, wake(1))
		awake[1] = true
		is(what)
		doesNot(t, what, c, wake(1))
	}
	for range 12 {
		does(t, "till it is down", c, tick())
	}
	if c.Up(1) {
		t.Error("it isn't down")
	}
	does(t, "it sleeps when it is down, too", c, sleep(1), wake(1), crash(1, 0), sleep(1), start(1))
	awake[1] = false
	is("a start wakes nobody")
}

// TestWakeClock: one that wakes, or begins again, knows which slot it is, and makes no block in it.
func TestWakeClock(t *testing.T) {
	for _, x := range []struct {
		what          string
		slept, behind []api.Step
	}{
		{"woken", []api.Step{sleep(1)}, []api.Step{wake(1)}},
		{"started", []api.Step{crash(1, 0)}, []api.Step{start(1)}},
		{"woken, then started", []api.Step{sleep(1), crash(1, 0)}, []api.Step{wake(1), start(1)}},
		{"started, then woken", []api.Step{sleep(1), crash(1, 0)}, []api.Step{start(1), wake(1)}},
	} {
		c := begin(t, so(4))
		does(t, x.what, c, x.slept...)
		// Node 1 wins in slot 2.
		does(t, x.what, c, tick(), tick())
		does(t, x.what, c, x.behind...)
		if got := c.members[1].node.Slot(); got != 2 || c.Tip(1) != 0 {
			t.Errorf("%s: its slot is %d, its tip %d", x.what, got, c.Tip(1))
		}
		does(t, x.what, c, deliver(where(c, 1, dataOf(t, blockOf(0, on(0, 1, 0))))))
		if c.Tip(1) != of(1, 0) {
			t.Errorf("%s: its tip is %d", x.what, c.Tip(1))
		}
		does(t, x.what, c, tick(), tick(), tick(), tick())
		if c.Tip(1) != of(6, 1) {
			t.Errorf("%s: its tip is %d", x.what, c.Tip(1))
		}
	}
}

// TestStartClock: without a tick behind it, one that begins again takes the blocks of this slot.
func TestStartClock(t *testing.T) {
	for _, asleep := range []bool{false, true} {
		c := begin(t, so(4))
		does(t, "three slots", c, tick(), tick(), tick())
		if asleep {
			does(t, "it sleeps", c, sleep(3))
		}
		does(t, "it begins again", c, crash(3, 0), start(3))
		if got := c.members[3].node.Slot(); got != 3 {
			t.Error("its slot is", got)
		}
		if asleep {
			does(t, "it is awake", c, wake(3))
		}
		does(t, "a block of this slot", c, deliver(where(c, 3, dataOf(t, blockOf(2, on(0, 3, 2))))))
		if c.Tip(3) != of(3, 2) {
			t.Error("its tip is", c.Tip(3))
		}
	}
}

// TestCrash: one that runs doesn't any more; its disk keeps what is synced, and as much more as it is told.
func TestCrash(t *testing.T) {
	for _, keep := range []int{math.MinInt, -1, 0, 1, 5, 11, 12, 13, 14, 1000, math.MaxInt} {
		c := begin(t, so(4))
		does(t, "a block", c, tick())
		does(t, "it isn't synced", c, deliver(where(c, 2, dataOf(t, blockOf(0, on(0, 1, 0))))))
		was := storedOn(c.members[2].disk)
		if was.synced != 0 || len(was.data) != 13 {
			t.Fatalf("on its disk: %+v", was)
		}
		want := was.data[:min(max(keep, 0), len(was.data))]
		does(t, "it crashes", c, crash(2, keep))
		got := storedOn(c.members[2].disk)
		if !bytes.Equal(got.data, want) || got.synced != len(want) || got.room != api.MaxDisk-len(want) {
			t.Errorf("keep %d: left is %+v, not %v", keep, got, want)
		}
		if !see(c, 2).same(seen{honest: true, awake: true}) {
			t.Errorf("keep %d: it tells %+v", keep, see(c, 2))
		}
		doesNot(t, "it doesn't run", c, crash(2, 0), crash(2, keep))
		does(t, "it begins again", c, start(2))
		tip := 0
		if len(want) == len(was.data) {
			tip = of(1, 0)
		}
		if c.Tip(2) != tip || !c.Up(2) {
			t.Errorf("keep %d: its tip is %d", keep, c.Tip(2))
		}
		if recs, size := journal.Scan(c.members[2].disk.Bytes()); size != len(c.members[2].disk.Bytes()) || (len(recs) > 0) != (tip > 0) {
			t.Errorf("keep %d: on its disk is %v", keep, c.members[2].disk.Bytes())
		}
		doesNot(t, "it runs", c, start(2))
	}
}

// TestCrashWhom: whoever runs can crash, be it asleep or down; what it was told and didn't write is gone.
func TestCrashWhom(t *testing.T) {
	c := begin(t, so(4))
	does(t, "asleep", c, sleep(1), crash(1, 0), start(1))
	does(t, "down", c, submit(0, 5, 1), room(0, 0), tick())
	if c.Up(0) {
		t.Fatal("it isn't down")
	}
	doesNot(t, "one that is down runs", c, start(0))
	does(t, "down", c, crash(0, 0))
	doesNot(t, "it doesn't run", c, crash(0, 0))
	does(t, "without room it begins again", c, start(0))
	if !c.Up(0) || c.Tip(0) != 0 || len(c.members[0].node.Pool()) > 0 {
		t.Errorf("it tells %+v and has %v", see(c, 0), c.members[0].node.Pool())
	}
	does(t, "what it had before it can be handed", c, submit(0, 5, 1))
}

// TestStart: what is on its disk is what a node of its own finds there.
func TestStart(t *testing.T) {
	config := so(4)
	c := begin(t, config)
	slots(t, c, 6)
	for i := range 4 {
		was, data := see(c, i), c.members[i].disk.Bytes()
		does(t, "it begins again", c, crash(i, math.MaxInt), start(i))
		if now := see(c, i); !now.same(was) || len(now.decisions) == 0 {
			t.Errorf("node %d was %+v, and is %+v", i, was, now)
		}
		if !bytes.Equal(c.members[i].disk.Bytes(), data) {
			t.Errorf("node %d: its disk is changed", i)
		}
	}
	slots(t, c, 2)
	if l := c.Decisions(3); len(l) < 7 || !slices.Equal(l, c.Decisions(0)) {
		t.Error("decided are", l, c.Decisions(0))
	}
}

// TestRoom: the disk of an honest one, whatever it does, has another room.
func TestRoom(t *testing.T) {
	for _, n := range []int{math.MinInt, -1, 0, 1, 11, 30, 40, 65535, 65536, 65537, math.MaxInt} {
		c := begin(t, so(4))
		does(t, "a block", c, tick())
		d := disk.New(api.MaxDisk)
		d.Append(c.members[0].disk.Bytes())
		d.Sync()
		d.Limit(n)
		does(t, "another room", c, room(0, n))
		if !storedOn(c.members[0].disk).same(storedOn(d)) {
			t.Errorf("%d: the disk is %+v", n, storedOn(c.members[0].disk))
		}
		does(t, "again", c, room(0, n), sleep(0), room(0, n), crash(0, 0), room(0, n), start(0), wake(0), room(0, n))
		if !storedOn(c.members[0].disk).same(storedOn(d)) || !c.Up(0) {
			t.Errorf("%d: the disk is %+v", n, storedOn(c.members[0].disk))
		}
		if got := storedOn(c.members[1].disk); !got.same(stored{room: api.MaxDisk}) {
			t.Errorf("%d: the disk of another one is %+v", n, got)
		}
	}
}
