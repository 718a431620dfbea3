package view

import (
	"math"
	"slices"
	"testing"
)

// far are numbers that are no index, no view, no BASE, no CAP and no number of nodes, and look like some.
var far = []int{math.MinInt, math.MinInt + 1, math.MinInt + 4, -1 << 32, -1<<32 + 1, -1001, -1000, -100, -7, -2, -1, 1001, 1<<31 - 1, 1 << 31, 1<<32 - 1, 1 << 32, 1<<32 + 1, 1<<32 + 4, math.MaxInt - 1, math.MaxInt}

// refused answers the far numbers and those beside them that aren't from least to most either.
func refused(least, most int) []int {
	l := append([]int{least - 1, most + 1, 2 * most, 2*most + 1}, far...)
	return slices.DeleteFunc(l, func(n int) bool { return n >= least && n <= most })
}

func TestLeader(t *testing.T) {
	for _, c := range []struct{ index, view, nodes, want int }{
		{0, 0, 1, 0},
		{1000, 1000, 1, 0},
		{0, 0, 4, 0},
		{0, 1, 4, 1},
		{1, 0, 4, 1},
		{5, 2, 4, 3},
		{2, 2, 4, 0},
		{7, 0, 7, 0},
		{3, 3, 7, 6},
		{6, 7, 7, 6},
		{0, 1000, 7, 6},
		{1000, 0, 7, 6},
		{1000, 1000, 7, 5},
		{1000, 1000, 2, 0},
		{999, 1000, 2, 1},
	} {
		if got := Leader(c.index, c.view, c.nodes); got != c.want {
			t.Errorf("index %d, view %d, %d nodes: %d, not %d", c.index, c.view, c.nodes, got, c.want)
		}
	}
}

// TestLeaderGoesRound: at each index, with each view it is the next node's turn, and behind the last one's the first one's again.
func TestLeaderGoesRound(t *testing.T) {
	for nodes := 1; nodes <= 7; nodes++ {
		first := 0
		for index := range 1001 {
			turn := first
			for view := range 1001 {
				if got := Leader(index, view, nodes); got != turn {
					t.Fatalf("index %d, view %d, %d nodes: %d, not %d", index, view, nodes, got, turn)
				}
				if turn++; turn == nodes {
					turn = 0
				}
			}
			if first++; first == nodes {
				first = 0
			}
		}
	}
}

// TestLeaderOfNone: it is 0 where the index, the view or how many nodes there are can't be, alone or together.
func TestLeaderOfNone(t *testing.T) {
	none := func(index, view, nodes int) {
		t.Helper()
		if got := Leader(index, view, nodes); got != 0 {
			t.Errorf("index %d, view %d, %d nodes: %d, not 0", index, view, nodes, got)
		}
	}
	for nodes := 1; nodes <= 7; nodes++ {
		for _, can := range []int{0, 1, 2, 3, 4, 5, 6, 7, 999, 1000} {
			for _, no := range refused(0, 1000) {
				none(no, can, nodes)
				none(can, no, nodes)
				for _, other := range refused(0, 1000) {
					none(no, other, nodes)
				}
			}
		}
	}
	for _, nodes := range refused(1, 7) {
		for _, index := range append([]int{0, 1, 2, 3, 500, 1000}, far...) {
			for _, view := range append([]int{0, 1, 2, 3, 500, 1000}, far...) {
				none(index, view, nodes)
			}
		}
	}
}
