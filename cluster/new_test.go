package cluster

import (
	"math"
	"slices"
	"testing"

	"neaptide/api"
)

// TestNewRight: what can be, with its edges.
func TestNewRight(t *testing.T) {
	for what, change := range map[string]func(*api.Config){
		"nothing changed":       func(c *api.Config) {},
		"one node":              func(c *api.Config) { c.Stakes = []int{1} },
		"the greatest stake":    func(c *api.Config) { c.Stakes = []int{1, 1000000} },
		"seven nodes":           func(c *api.Config) { c.Stakes = slices.Repeat([]int{1000000}, 7) },
		"the last one is bad":   func(c *api.Config) { c.Bad = []int{3} },
		"the first one is bad":  func(c *api.Config) { c.Bad = []int{0} },
		"all are bad":           func(c *api.Config) { c.Bad = []int{3, 2, 1, 0} },
		"bad more than once":    func(c *api.Config) { c.Bad = slices.Repeat([]int{3, 0}, 1000) },
		"none are bad":          func(c *api.Config) { c.Bad = []int{} },
		"no draws":              func(c *api.Config) { c.Draws = nil },
		"empty draws":           func(c *api.Config) { c.Draws = []int{} },
		"200 draws":             func(c *api.Config) { c.Draws = slices.Repeat([]int{127}, 200) },
		"the least draw":        func(c *api.Config) { c.Draws = []int{0} },
		"those win who are not": func(c *api.Config) { c.Draws = []int{64, 127} },
		"deep 0":                func(c *api.Config) { c.Deep = 0 },
		"deep 10":               func(c *api.Config) { c.Deep = 10 },
		"base 1":                func(c *api.Config) { c.Base = 1 },
		"base 100":              func(c *api.Config) { c.Base = 100 },
		"most 1":                func(c *api.Config) { c.Most = 1 },
		"most 1000":             func(c *api.Config) { c.Most = 1000 },
		"no room":               func(c *api.Config) { c.Room = 0 },
		"all room":              func(c *api.Config) { c.Room = 65536 },
	} {
		config := so(4)
		change(&config)
		if c, e := New(config); e != api.OK || c == nil {
			t.Errorf("%s: %d", what, e)
		}
	}
}

// TestNewWrong: what can't be, each unlike a right one in one thing.
func TestNewWrong(t *testing.T) {
	for what, change := range map[string]func(*api.Config){
		"no nodes":              func(c *api.Config) { c.Stakes, c.Bad = nil, nil },
		"empty stakes":          func(c *api.Config) { c.Stakes, c.Bad = []int{}, nil },
		"eight nodes":           func(c *api.Config) { c.Stakes = slices.Repeat([]int{1}, 8) },
		"very many nodes":       func(c *api.Config) { c.Stakes = slices.Repeat([]int{1}, 100000) },
		"a stake of 0":          func(c *api.Config) { c.Stakes = []int{1, 1, 1, 0} },
		"a stake below 0":       func(c *api.Config) { c.Stakes = []int{-1, 1, 1, 1} },
		"too great a stake":     func(c *api.Config) { c.Stakes = []int{1, 1000001, 1, 1} },
		"bad is one too many":   func(c *api.Config) { c.Bad = []int{4} },
		"bad is no node's":      func(c *api.Config) { c.Bad = []int{1, -1} },
		"bad is far":            func(c *api.Config) { c.Bad = []int{0, math.MaxInt} },
		"bad is far below":      func(c *api.Config) { c.Bad = []int{math.MinInt, 0} },
		"bad of another size":   func(c *api.Config) { c.Stakes, c.Bad = []int{1, 1}, []int{2} },
		"201 draws":             func(c *api.Config) { c.Draws = slices.Repeat([]int{1}, 201) },
		"a draw of 128":         func(c *api.Config) { c.Draws = []int{1, 128} },
		"a draw below 0":        func(c *api.Config) { c.Draws = []int{-1, 1} },
		"a far draw":            func(c *api.Config) { c.Draws = []int{1, 1<<32 + 1} },
		"deep below 0":          func(c *api.Config) { c.Deep = -1 },
		"deep 11":               func(c *api.Config) { c.Deep = 11 },
		"base 0":                func(c *api.Config) { c.Base = 0 },
		"base 101":              func(c *api.Config) { c.Base = 101 },
		"most 0":                func(c *api.Config) { c.Most = 0 },
		"most 1001":             func(c *api.Config) { c.Most = 1001 },
		"room below 0":          func(c *api.Config) { c.Room = -1 },
		"room for one too many": func(c *api.Config) { c.Room = 65537 },
		"nothing at all":        func(c *api.Config) { *c = api.Config{} },
	} {
		config := so(4)
		change(&config)
		if c, e := New(config); e != api.ErrStep || c != nil {
			t.Errorf("%s: %v, %d", what, c, e)
		}
	}
}

// TestNewFar: numbers that are far out of their bounds.
func TestNewFar(t *testing.T) {
	for _, n := range []int{math.MinInt, math.MinInt32, -1 << 16, 1 << 20, 1 << 32, 1<<32 + 5, math.MaxInt} {
		for i, field := range []func(*api.Config) *int{
			func(c *api.Config) *int { return &c.Deep },
			func(c *api.Config) *int { return &c.Base },
			func(c *api.Config) *int { return &c.Most },
			func(c *api.Config) *int { return &c.Room },
			func(c *api.Config) *int { c.Bad = []int{0}; return &c.Bad[0] },
			func(c *api.Config) *int { c.Stakes = []int{1, 1, 1, 1}; return &c.Stakes[2] },
			func(c *api.Config) *int { c.Draws = []int{1, 1}; return &c.Draws[1] },
		} {
			config := so(4)
			*field(&config) = n
			if c, e := New(config); e != api.ErrStep || c != nil {
				t.Errorf("field %d is %d: %v, %d", i, n, c, e)
			}
		}
	}
}

// TestNewTells: each honest node runs and is awake, nothing is on its way, and it is slot 0.
func TestNewTells(t *testing.T) {
	for nodes := 1; nodes <= 7; nodes++ {
		for bad := range 1 << nodes {
			var list []int
			for i := range nodes {
				if bad>>i&1 == 1 {
					list = append(list, i)
				}
			}
			config := so(nodes, list...)
			config.Room = 100 * nodes
			c := begin(t, config)
			var want look
			for i := range nodes {
				if bad>>i&1 == 0 {
					want.nodes[i] = seen{honest: true, up: true, awake: true}
					want.disks = append(want.disks, stored{room: 100 * nodes})
				}
			}
			if got := lookAt(c); !got.same(want) || c.Len() != 0 {
				t.Errorf("%d nodes, bad %v: told is %+v", nodes, list, got)
			}
			for i := range nodes {
				for j := range nodes {
					if !c.sides.Same(i, j) {
						t.Errorf("%d and %d are on unlike sides", i, j)
					}
				}
			}
		}
	}
}

// TestNewDisks: each has a disk of its own, with that room.
func TestNewDisks(t *testing.T) {
	config := so(4)
	config.Room = 40
	c := begin(t, config)
	does(t, "the first slot", c, tick())
	// The block of slot 1 and the votes for it have no more room than that.
	for i := range 4 {
		d := storedOn(c.members[i].disk)
		if (len(d.data) > 0) != (i == 0) || len(d.data)+d.room != 40 {
			t.Errorf("on the disk of %d: %+v", i, d)
		}
	}
}

// TestNewSelves: the nodes are as the config says: their numbers, stakes, draws, depth and patience.
func TestNewSelves(t *testing.T) {
	config := api.Config{Stakes: []int{5, 1, 1, 1}, Draws: []int{1, 2, 4, 8}, Deep: 2, Base: 3, Most: 4, Room: 5000}
	c := begin(t, config)
	for slot := 1; slot <= 4; slot++ {
		slots(t, c, 1)
		for i := range 4 {
			if c.Tip(i) != of(slot, slot-1) {
				t.Errorf("slot %d: the tip of %d is %d", slot, i, c.Tip(i))
			}
			if want := []int{0, 0, of(1, 0), of(2, 1)}[slot-1]; c.Confirmed(i) != want {
				t.Errorf("slot %d: of %d confirmed is %d", slot, i, c.Confirmed(i))
			}
		}
	}
	// With 5 of 8, node 0 and any other one are Most: the others aren't without it.
	was := len(c.Decisions(0))
	does(t, "two sleep", c, sleep(1), sleep(3))
	slots(t, c, 20)
	if len(c.Decisions(0)) <= was || !slices.Equal(c.Decisions(2), c.Decisions(0)) {
		t.Errorf("decided by 0 and 2: %v and %v", c.Decisions(0), c.Decisions(2))
	}
	was = len(c.Decisions(2))
	does(t, "and the other way round", c, wake(1), wake(3), sleep(0))
	slots(t, c, 20)
	if got := c.Decisions(2); len(got) != was {
		t.Errorf("decided without 0: %v", got[was:])
	}
	patience(t, 3, 4, []int{3, 4, 4})
	patience(t, 1, 1000, []int{1, 2, 4})
}

// patience tells it, if a node that hears nobody doesn't wait so many ticks in each step of the first views.
func patience(t *testing.T, base, most int, want []int) {
	t.Helper()
	config := so(4)
	config.Base, config.Most = base, most
	c := begin(t, config)
	does(t, "alone", c, sleep(0), sleep(1), sleep(2), tick())
	slot := 1
	for view, ticks := range want {
		for _, kind := range []int{api.KindPrepare, api.KindCommit} {
			slot += ticks
			for c.Slot() < slot {
				if where(c, 0, dataOf(t, voteOf(kind, 3, 0, view, -1))) >= 0 {
					t.Errorf("base %d, most %d: in view %d it is too early", base, most, view)
				}
				empty(t, c)
				does(t, "alone", c, tick())
			}
			if where(c, 0, dataOf(t, voteOf(kind, 3, 0, view, -1))) < 0 {
				t.Errorf("base %d, most %d: in view %d it isn't there in time", base, most, view)
			}
		}
		// Behind its commit it waits as long once more, ahead of the next view.
		slot += ticks
	}
}
