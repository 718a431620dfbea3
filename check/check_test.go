package check

import (
	"math"
	"slices"
	"testing"

	"neaptide/api"
	"neaptide/msg"
)

// The names of blocks: nameA is the least one.
const (
	nameA = 1 << 16
	nameB = 2<<16 + 1<<8
	nameC = 3<<16 + 2<<8 + 5
)

// names are those of all blocks that there are.
var names = []int{nameA, nameB, nameC}

// far are numbers that are nothing at all, and look like something.
var far = []int{math.MinInt, math.MinInt + 1, math.MinInt + 4, -1 << 32, -1<<32 + 1, -1000, -7, -2, -1, 1001, 1002, 1<<32 - 1, 1 << 32, 1<<32 + 4, math.MaxInt - 1, math.MaxInt}

// alike are stakes of nodes that have 1 each.
func alike(nodes int) []int { return slices.Repeat([]int{1}, nodes) }

func proposeOf(from, index, view, value, prepared int) api.Msg {
	return api.Msg{Kind: api.KindPropose, From: from, Index: index, View: view, Value: value, Prepared: prepared}
}

func prepareOf(from, index, view, value int) api.Msg {
	return api.Msg{Kind: api.KindPrepare, From: from, Index: index, View: view, Value: value}
}

func commitOf(from, index, view, value int) api.Msg {
	return api.Msg{Kind: api.KindCommit, From: from, Index: index, View: view, Value: value}
}

func decidedOf(from, index, value int) api.Msg {
	return api.Msg{Kind: api.KindDecided, From: from, Index: index, Value: value}
}

// sent tells it, if the acts aren't these messages, each to all.
func sent(t *testing.T, what string, got []api.Act, want ...api.Msg) {
	t.Helper()
	var acts []api.Act
	for _, m := range want {
		acts = append(acts, api.Act{To: -1, Msg: m})
	}
	if !sameActs(got, acts) {
		t.Errorf("%s: sent is\n%v, not\n%v", what, got, acts)
	}
}

func sameActs(a, b []api.Act) bool {
	return slices.EqualFunc(a, b, func(x, y api.Act) bool { return x.To == y.To && msg.Same(x.Msg, y.Msg) })
}

// state is what a core tells of itself.
type state struct {
	index, view, step   int
	lockValue, lockView int
}

func stateOf(c *Core) state {
	s := state{index: c.Index(), view: c.View(), step: c.Step()}
	s.lockValue, s.lockView = c.Lock()
	return s
}

// is tells it, if the core isn't in a state.
func is(t *testing.T, what string, c *Core, want state) {
	t.Helper()
	if got := stateOf(c); got != want {
		t.Errorf("%s: the core is in %+v, not in %+v", what, got, want)
	}
	if got := len(c.Decisions()); got != want.index {
		t.Errorf("%s: %d are decided in index %d", what, got, want.index)
	}
}

// free is a state without a lock.
func free(index, view, step int) state { return state{index, view, step, 0, -1} }

// hand hands messages in, and answers all that is sent by them.
func hand(c *Core, known []int, l ...api.Msg) []api.Act {
	var acts []api.Act
	for _, m := range l {
		acts = append(acts, c.Handle(m, known)...)
	}
	return acts
}

// ticked ticks until the core is in a view and a step; patience has an end, so it does come there.
func ticked(t *testing.T, c *Core, known []int, tip, view, step int) {
	t.Helper()
	for range 5000 {
		if c.View() == view && c.Step() == step {
			return
		}
		c.Tick(known, tip)
	}
	t.Fatalf("view %d, step %d: never there, but in %+v", view, step, stateOf(c))
}

func TestSteps(t *testing.T) {
	if Rest != 0 || Propose != 1 || Prepare != 2 || Commit != 3 {
		t.Error(Rest, Propose, Prepare, Commit)
	}
}

// TestExample: of one node alone, in each index anew.
func TestExample(t *testing.T) {
	c := New(0, []int{5}, 1, 8)
	for i, tip := range []int{nameB, nameB, 0, nameA} {
		acts := c.Tick(names, tip)
		sent(t, "one alone", acts, proposeOf(0, i, 0, tip, -1), prepareOf(0, i, 0, tip), commitOf(0, i, 0, tip), decidedOf(0, i, tip))
		is(t, "one alone", c, free(i+1, 0, Rest))
	}
	if got := c.Decisions(); !slices.Equal(got, []int{nameB, nameB, 0, nameA}) {
		t.Error("decided is", got)
	}
}

func TestNew(t *testing.T) {
	for nodes := 1; nodes <= 7; nodes++ {
		for me := range nodes {
			for _, patience := range [][2]int{{1, 1}, {100, 1}, {1, 1000}, {100, 1000}} {
				is(t, "new", New(me, alike(nodes), patience[0], patience[1]), free(0, 0, Rest))
			}
		}
	}
}

// TestTwoCores: one has nothing of another.
func TestTwoCores(t *testing.T) {
	stakes := alike(1)
	a, b := New(0, stakes, 1, 8), New(0, stakes, 1, 8)
	a.Tick(names, nameA)
	is(t, "the other one", b, free(0, 0, Rest))
	b.Tick(names, nameB)
	if !slices.Equal(a.Decisions(), []int{nameA}) || !slices.Equal(b.Decisions(), []int{nameB}) {
		t.Error(a.Decisions(), b.Decisions())
	}
}

// TestFourNodes: all that is said reaches all, and each leader in its turn has its tip decided.
func TestFourNodes(t *testing.T) {
	var cores []*Core
	for me := range 4 {
		cores = append(cores, New(me, []int{3, 1, 2, 2}, 5, 20))
	}
	tips := []int{nameC, nameA, 0, nameB}
	var way []api.Msg
	for range 6 {
		for me, c := range cores {
			for _, a := range c.Tick(names, tips[me]) {
				way = append(way, a.Msg)
			}
		}
		for len(way) > 0 {
			m := way[0]
			way = way[1:]
			for me, c := range cores {
				if me == m.From {
					continue
				}
				for _, a := range c.Handle(m, names) {
					if a.To == -1 {
						way = append(way, a.Msg)
					}
				}
			}
		}
	}
	for me, c := range cores {
		if got := c.Decisions(); !slices.Equal(got, []int{nameC, nameA, 0, nameB, nameC, nameA}) {
			t.Errorf("%d decided %v", me, got)
		}
	}
}
