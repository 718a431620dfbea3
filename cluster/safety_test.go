package cluster

import (
	"slices"
	"testing"

	"neaptide/api"
	"neaptide/stake"
)

// alike tells whether one of two lists is a beginning of the other.
func alike(a, b []int) bool {
	n := min(len(a), len(b))
	return slices.Equal(a[:n], b[:n])
}

// storm is a cluster to which whatever can happens, and bad ones who tell each one something else.
type storm struct {
	*dice
	c       *Cluster
	bad     []int
	nodes   int
	rest    int   // how much else happens than that all goes well
	longest []int // of all Finals that there ever were
	turned  bool  // whether two were ever unlike
	crashes int
}

// newStorm answers one whose bad ones are Few, or are not.
func newStorm(t *testing.T, seed int, few bool) *storm {
	t.Helper()
	d := dice(seed)
	for {
		nodes := 2 + d.next(6)
		config := api.Config{Deep: d.next(3), Base: 1 + d.next(3), Most: 4, Room: api.MaxDisk}
		for i := range nodes {
			config.Stakes = append(config.Stakes, 1+d.next(2)*d.next(3))
			if d.next(3) == 0 {
				config.Bad = append(config.Bad, i)
			}
		}
		for range api.MaxSlots {
			config.Draws = append(config.Draws, d.next(128)&d.next(128))
		}
		if stake.Few(config.Stakes, config.Bad) == few && len(config.Bad) < nodes-1 {
			return &storm{dice: &d, c: begin(t, config), bad: config.Bad, nodes: nodes, rest: 1 + d.next(5)}
		}
	}
}

// value answers what one may vote for: what some node has highest, or confirmed, or nothing.
func (x *storm) value() int {
	i := x.next(x.nodes)
	return []int{x.c.Tip(i), x.c.Confirmed(i), x.c.Tip(x.next(x.nodes)), 0, -1}[x.next(5)]
}

// lie has a bad one tell a node something that is of its index.
func (x *storm) lie(t *testing.T) {
	t.Helper()
	from, to := x.bad[x.next(len(x.bad))], x.next(x.nodes)
	index, view, value := len(x.c.Decisions(to)), x.next(3)*x.next(2), x.value()
	m := api.Msg{Kind: 2 + x.next(5), From: from, Index: index, View: view, Value: value}
	switch m.Kind {
	case api.KindAsk:
		slot := max(1, x.c.Slot()-x.next(3))
		parent := max(0, x.value())
		m = blockOf(from, on(parent, slot, from, 1+x.next(60)))
		m.Block.Variant = x.next(3)
		if parent >= of(slot, 0) {
			return
		}
	case api.KindPropose:
		m.Value, m.Prepared = max(0, value), x.next(view+1)-1
	case api.KindDecided:
		m.Value, m.View = max(0, value), 0
	default:
		// Both votes, as if all went well with that value.
		other := m
		other.Kind = api.KindPrepare + api.KindCommit - m.Kind
		x.c.Step(inject(to, dataOf(t, other)))
	}
	x.c.Step(inject(to, dataOf(t, m)))
}

// step has something happen: most often that something is delivered.
func (x *storm) step(t *testing.T) {
	t.Helper()
	i := x.next(x.nodes)
	if len(x.bad) > 0 && x.next(6) == 0 {
		x.lie(t)
		return
	}
	what := x.next(1000)
	if what >= 10*x.rest {
		if !x.c.Step(deliver(x.next(max(1, x.c.Len())))) && x.next(12) == 0 {
			x.c.Step(tick())
			x.c.Step(submit(i, 1+x.next(500), x.next(9)))
			x.c.Step(wake(i))
			x.c.Step(start(i))
		}
		return
	}
	switch what % 10 {
	case 0:
		x.c.Step(tick())
	case 1:
		x.c.Step(drop(x.next(max(1, x.c.Len()))))
	case 2:
		x.c.Step(double(x.next(max(1, x.c.Len()))))
	case 3:
		x.c.Step(sleep(i))
	case 4, 5:
		x.c.Step(wake(i))
	case 6:
		if x.c.Step(crash(i, x.next(2)*x.next(99))) {
			x.crashes++
		}
	case 7:
		if x.next(9) == 0 {
			x.c.Step(room(i, len(x.onDisk(i))+x.next(300)))
			return
		}
		x.c.Step(room(i, api.MaxDisk))
		// One that is down runs still.
		if x.c.Honest(i) && !x.c.Up(i) {
			x.c.Step(crash(i, 0))
		}
		x.c.Step(start(i))
	case 8:
		x.c.Step(start(i))
	case 9:
		x.c.Step(cut(x.next(2) * x.next(2) * x.next(128)))
	}
}

// onDisk answers what an honest node has on its disk.
func (x *storm) onDisk(i int) []byte {
	if m := x.c.members[i]; m != nil {
		return m.disk.Bytes()
	}
	return nil
}

// watch compares all Finals, with one another and with the longest one that there ever was.
func (x *storm) watch() {
	for i := range x.nodes {
		final := x.c.Final(i)
		for j := range i {
			x.turned = x.turned || !alike(final, x.c.Final(j))
		}
		x.turned = x.turned || !alike(final, x.longest)
		if len(final) > len(x.longest) {
			x.longest = final
		}
	}
}

// rage has so much happen, and answers whether two Finals were ever unlike.
func (x *storm) rage(t *testing.T, turns int) bool {
	t.Helper()
	for turn := range turns {
		x.step(t)
		if turn%8 == 0 {
			x.watch()
		}
	}
	x.watch()
	return x.turned
}

// TestSafety: if the Bad are Few, of any two Finals one is a beginning of the other, whatever happens.
func TestSafety(t *testing.T) {
	final, crashes, unlike := 0, 0, 0
	for seed := range 120 {
		x := newStorm(t, seed, true)
		if x.rage(t, 2500) {
			t.Errorf("seed %d: the Finals are unlike", seed)
		}
		final += len(x.longest)
		crashes += x.crashes
		if newStorm(t, seed, false).rage(t, 2500) {
			unlike++
		}
	}
	t.Log("final transactions, crashes, unlike if the Bad aren't Few:", final, crashes, unlike)
	if final < 1000 || crashes < 400 || unlike < 2 {
		t.Error("too little happens: final transactions, crashes, unlike if the Bad aren't Few:", final, crashes, unlike)
	}
}
