package cluster

import (
	"slices"
	"testing"

	"neaptide/api"
)

// nothing tells it, if anything is told of a node beside whether it is honest, and awake.
func nothing(t *testing.T, what string, c *Cluster, i int, honest, awake bool) {
	t.Helper()
	if got := see(c, i); !got.same(seen{honest: honest, awake: awake}) {
		t.Errorf("%s: of %d is told %+v", what, i, got)
	}
}

// TestToldOfNobody: of a bad one, and of what is no node, nothing is told.
func TestToldOfNobody(t *testing.T) {
	for _, bad := range []int{0, 1, 2, 3} {
		c := begin(t, so(4, bad))
		does(t, "something is there", c, submit((bad+1)%4, 5, 1))
		slots(t, c, 10)
		for _, i := range append([]int{bad, 4, 5, 6}, far...) {
			nothing(t, "nobody", c, i, false, false)
		}
		for i := range 4 {
			if s := see(c, i); i != bad && (!s.honest || !s.up || !s.awake || s.tip == 0 || s.confirmed != s.tip || len(s.decisions) == 0 || len(s.final) != 1 || len(s.avail) != 1) {
				t.Errorf("of %d is told %+v", i, s)
			}
		}
	}
}

// TestToldAsNode: what is told is what the node tells, of itself and not of another one.
func TestToldAsNode(t *testing.T) {
	config := so(4)
	config.Deep = 1
	c := begin(t, config)
	unlike := 0
	for slot := range 30 {
		does(t, "a transaction", c, submit(slot%4, 100+slot, slot%5), cut([]int{0, 1, 3, 8}[slot/3%4]), tick())
		for range 6 * (slot % 4) {
			c.Step(deliver(slot % max(1, c.Len())))
		}
		for i := range 4 {
			n := c.members[i].node
			want := seen{true, true, true, n.Tip(), n.Confirmed(), n.Decisions(), n.Final(), n.Avail()}
			if got := see(c, i); !got.same(want) {
				t.Errorf("of %d is told %+v, not %+v", i, got, want)
			}
			if !see(c, i).same(see(c, (i+1)%4)) {
				unlike++
			}
		}
	}
	if unlike < 20 {
		t.Error("they are too much alike:", unlike)
	}
}

// TestToldAsleep: one that sleeps tells what it did; one that doesn't run, or is down, nothing.
func TestToldAsleep(t *testing.T) {
	c := begin(t, so(4))
	does(t, "a transaction", c, submit(1, 5, 1))
	slots(t, c, 8)
	was := see(c, 1)
	if !was.up || was.tip == 0 || was.confirmed == 0 || len(was.decisions) == 0 || !slices.Equal(was.final, []int{5}) || !slices.Equal(was.avail, []int{5}) {
		t.Fatalf("it tells %+v", was)
	}
	does(t, "asleep", c, sleep(1))
	was.awake = false
	if got := see(c, 1); !got.same(was) {
		t.Errorf("asleep it tells %+v, not %+v", got, was)
	}
	does(t, "it doesn't run", c, crash(1, 9999))
	nothing(t, "asleep and not running", c, 1, true, false)
	does(t, "awake", c, wake(1))
	nothing(t, "not running", c, 1, true, true)
	does(t, "it runs", c, start(1))
	was.awake = true
	if got := see(c, 1); !got.same(was) {
		t.Errorf("it tells %+v, not %+v", got, was)
	}
	does(t, "it has no room", c, room(1, 0))
	for range 8 {
		does(t, "till it is down", c, tick())
	}
	nothing(t, "down", c, 1, true, true)
	does(t, "down and asleep", c, sleep(1))
	nothing(t, "down and asleep", c, 1, true, false)
}

// TestLen: how many parcels there are.
func TestLen(t *testing.T) {
	c := begin(t, so(7, 6))
	want := 0
	for id := 1; c.Len() < api.MaxBag; id++ {
		if len(wayOf(c)) != want || c.Len() != want {
			t.Fatalf("on their way are %d, not %d", c.Len(), want)
		}
		if id < 10 {
			does(t, "to five others", c, submit(2, id, 1))
			want += 5
			continue
		}
		does(t, "one more", c, double(id))
		want++
	}
	if want != api.MaxBag {
		t.Error("there is room for", want)
	}
}
