package tally

import (
	"math"
	"slices"
	"testing"

	"neaptide/api"
)

// far are numbers that are no kind, no view and no node, and look like some.
var far = []int{math.MinInt, math.MinInt + 4, -1 << 32, -1<<32 + 1, -1000, -7, -5, -4, -2, -1, 1001, 1<<32 - 1, 1 << 32, 1<<32 + 1, 1<<32 + 4, 1<<32 + 5, math.MaxInt - 1, math.MaxInt}

// kinds are those of votes.
var kinds = []int{api.KindPrepare, api.KindCommit}

// alike are stakes of nodes that have 1 each.
func alike(nodes int) []int { return slices.Repeat([]int{1}, nodes) }

// voted answers a tally of votes, each of a kind, a view, a node and a value, that are all taken.
func voted(t *testing.T, stakes []int, votes ...[4]int) *Tally {
	t.Helper()
	x := New(stakes)
	for _, v := range votes {
		if !x.Add(v[0], v[1], v[2], v[3]) {
			t.Fatalf("%v isn't taken", v)
		}
	}
	return x
}

// untouched tells it, if a tally isn't as one without votes is.
func untouched(t *testing.T, name string, x *Tally) {
	t.Helper()
	for _, view := range append([]int{0, 1, 2, 500, 999, 1000}, far...) {
		for _, kind := range append([]int{0, 1, 2, 3, 4, 5, 6, 7}, far...) {
			for _, n := range append([]int{0, 1, 2, 3, 4, 5, 6, 7}, far...) {
				if value, ok := x.Vote(kind, view, n); value != 0 || ok {
					t.Errorf("%s: kind %d, view %d: %d voted %d", name, kind, view, n, value)
				}
				if who := x.Who(kind, view, n); len(who) > 0 {
					t.Errorf("%s: kind %d, view %d: %v voted for %d", name, kind, view, who, n)
				}
			}
			if all := x.All(kind, view); len(all) > 0 {
				t.Errorf("%s: kind %d, view %d: %v voted", name, kind, view, all)
			}
			if value, ok := x.Most(kind, view); value != 0 || ok {
				t.Errorf("%s: kind %d, view %d: most voted for %d", name, kind, view, value)
			}
		}
		if got := x.Ahead(view); got != view {
			t.Errorf("%s: ahead of %d is %d", name, view, got)
		}
	}
	if value, ok := x.Committed(); value != 0 || ok {
		t.Errorf("%s: committed is %d", name, value)
	}
}

func TestExample(t *testing.T) {
	x := voted(t, alike(4), [4]int{5, 2, 0, 7}, [4]int{5, 2, 1, 7})
	if value, ok := x.Committed(); value != 0 || ok {
		t.Error("two of four commit:", value, ok)
	}
	x.Add(5, 2, 3, 7)
	if value, ok := x.Committed(); value != 7 || !ok {
		t.Error("three of four commit:", value, ok)
	}
}

func TestNew(t *testing.T) {
	for nodes := 1; nodes <= 7; nodes++ {
		untouched(t, "new", New(alike(nodes)))
	}
	untouched(t, "of one node", New([]int{1000000}))
}

// TestAddRefuses: what can't be voted is false, and leaves nothing behind.
func TestAddRefuses(t *testing.T) {
	for nodes := 1; nodes <= 7; nodes++ {
		x := New(alike(nodes))
		for _, c := range []struct {
			name string
			vote [4]int
		}{
			{"a transaction", [4]int{api.KindTx, 1, 0, 9}},
			{"a block", [4]int{api.KindBlock, 1, 0, 9}},
			{"an ask", [4]int{api.KindAsk, 1, 0, 9}},
			{"a proposal", [4]int{api.KindPropose, 1, 0, 9}},
			{"a decision", [4]int{api.KindDecided, 1, 0, 9}},
			{"no kind at all", [4]int{7, 1, 0, 9}},
			{"a view below", [4]int{4, -1, 0, 9}},
			{"a view above", [4]int{4, 1001, 0, 9}},
			{"a node below", [4]int{4, 1, -1, 9}},
			{"a node above", [4]int{4, 1, nodes, 9}},
			{"one above that", [4]int{4, 1, nodes + 1, 9}},
			{"a value below", [4]int{4, 1, 0, -2}},
			{"a value far below", [4]int{4, 1, 0, math.MinInt}},
			{"all of it wrong", [4]int{3, -1, 9, -2}},
		} {
			for _, kind := range kinds {
				v := c.vote
				if v[0] == 4 {
					v[0] = kind
				}
				if x.Add(v[0], v[1], v[2], v[3]) {
					t.Errorf("%d nodes: %s was taken: %v", nodes, c.name, v)
				}
			}
		}
		for _, n := range far {
			if x.Add(n, 1, 0, 9) || x.Add(4, n, 0, 9) || x.Add(5, 1, n, 9) {
				t.Errorf("%d nodes: %d was taken for a kind, a view or a node", nodes, n)
			}
			if n < -1 && x.Add(4, 1, 0, n) {
				t.Errorf("%d nodes: %d was taken for a value", nodes, n)
			}
		}
		untouched(t, "behind what was refused", x)
	}
}

// TestAddTakes: each kind, the first and the last view, each node, each value from -1 on.
func TestAddTakes(t *testing.T) {
	for nodes := 1; nodes <= 7; nodes++ {
		for _, kind := range kinds {
			for _, view := range []int{0, 1, 2, 500, 999, 1000} {
				for _, value := range []int{-1, 0, 1, 65536, 4095<<16 + 6<<8 + 255, 1 << 40, math.MaxInt} {
					for from := range nodes {
						x := New(alike(nodes))
						if !x.Add(kind, view, from, value) {
							t.Errorf("of %d nodes %d can't vote %d in kind %d and view %d", nodes, from, value, kind, view)
						}
						if got, ok := x.Vote(kind, view, from); got != value || !ok {
							t.Errorf("of %d nodes %d voted %d, not %d: %t", nodes, from, got, value, ok)
						}
						if who := x.Who(kind, view, value); !slices.Equal(who, []int{from}) {
							t.Errorf("of %d nodes %v voted, not %d", nodes, who, from)
						}
					}
				}
			}
		}
	}
}

// TestFirstVoteStands: whoever votes again, for the same or for another value, changes nothing.
func TestFirstVoteStands(t *testing.T) {
	for _, first := range []int{-1, 0, 7} {
		x := voted(t, alike(4), [4]int{4, 3, 2, first})
		for _, value := range []int{first, -1, 0, 7, 8, -2, math.MaxInt} {
			if x.Add(4, 3, 2, value) {
				t.Errorf("%d is taken behind %d", value, first)
			}
			if got, ok := x.Vote(4, 3, 2); got != first || !ok {
				t.Errorf("%d is %d now", first, got)
			}
			if who := x.Who(4, 3, value); value != first && len(who) > 0 {
				t.Errorf("%v voted for %d too", who, value)
			}
		}
		if all := x.All(4, 3); !slices.Equal(all, []int{2}) {
			t.Error("voted have", all)
		}
	}
}

// TestVotesAreApart: a vote counts in its own kind, view and node alone.
func TestVotesAreApart(t *testing.T) {
	x := voted(t, alike(7), [4]int{4, 3, 2, 70})
	for kind := range 8 {
		for view := range 8 {
			for from := range 8 {
				want := kind == 4 && view == 3 && from == 2
				if got, ok := x.Vote(kind, view, from); ok != want || ok && got != 70 || !ok && got != 0 {
					t.Errorf("kind %d, view %d, node %d: %d %t", kind, view, from, got, ok)
				}
			}
			here := kind == 4 && view == 3
			if got := len(x.Who(kind, view, 70)) + len(x.All(kind, view)); here && got != 2 || !here && got != 0 {
				t.Errorf("kind %d, view %d: %v voted", kind, view, x.All(kind, view))
			}
		}
	}
	for _, v := range [][4]int{{5, 3, 2, 71}, {4, 2, 2, 72}, {4, 4, 2, 73}, {4, 3, 1, 74}, {4, 3, 3, 75}} {
		if !x.Add(v[0], v[1], v[2], v[3]) {
			t.Error("not taken beside another one:", v)
		}
	}
	for _, v := range [][4]int{{4, 3, 2, 70}, {5, 3, 2, 71}, {4, 2, 2, 72}, {4, 4, 2, 73}, {4, 3, 1, 74}, {4, 3, 3, 75}} {
		if got, ok := x.Vote(v[0], v[1], v[2]); got != v[3] || !ok {
			t.Errorf("%v: %d %t", v, got, ok)
		}
	}
}

// TestTalliesAreApart: what is put into one isn't in another one.
func TestTalliesAreApart(t *testing.T) {
	stakes := alike(4)
	x, y := New(stakes), New(stakes)
	x.Add(4, 0, 0, 9)
	untouched(t, "beside another one", y)
	if !y.Add(4, 0, 0, 8) {
		t.Error("what one has voted in another one counts")
	}
	if got, _ := x.Vote(4, 0, 0); got != 9 {
		t.Error("what is put into another one counts:", got)
	}
}
