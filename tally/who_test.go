package tally

import (
	"math"
	"slices"
	"testing"
)

// TestRising: in whatever order they vote.
func TestRising(t *testing.T) {
	for _, order := range [][]int{{0, 1, 2, 3, 4, 5, 6}, {6, 5, 4, 3, 2, 1, 0}, {3, 6, 0, 2, 5, 1, 4}, {4, 1, 5, 2, 0, 6, 3}} {
		for _, kind := range kinds {
			x := New(alike(7))
			for _, node := range order {
				x.Add(kind, 8, node, []int{7, -1, 0}[node%3])
			}
			for value, want := range map[int][]int{7: {0, 3, 6}, -1: {1, 4}, 0: {2, 5}, 1: {}, -2: {}, math.MaxInt: {}, math.MinInt: {}} {
				if got := x.Who(kind, 8, value); !slices.Equal(got, want) {
					t.Errorf("in the order %v: for %d voted %v, not %v", order, value, got, want)
				}
			}
			if got := x.All(kind, 8); !slices.Equal(got, []int{0, 1, 2, 3, 4, 5, 6}) {
				t.Errorf("in the order %v: voted have %v", order, got)
			}
		}
	}
}

// TestSomeVoted: those alone.
func TestSomeVoted(t *testing.T) {
	x := voted(t, alike(7), [4]int{5, 1000, 6, 0}, [4]int{5, 1000, 1, -1}, [4]int{5, 1000, 4, 0})
	if got := x.All(5, 1000); !slices.Equal(got, []int{1, 4, 6}) {
		t.Error("voted have", got)
	}
	if got := x.Who(5, 1000, 0); !slices.Equal(got, []int{4, 6}) {
		t.Error("for 0 voted", got)
	}
	if got := x.Who(5, 1000, -1); !slices.Equal(got, []int{1}) {
		t.Error("for -1 voted", got)
	}
}

func TestMost(t *testing.T) {
	for _, c := range []struct {
		name   string
		stakes []int
		values []int // of each node: -2, if it doesn't vote
		want   int
		ok     bool
	}{
		{"nobody voted", alike(4), []int{-2, -2, -2, -2}, 0, false},
		{"one alone", alike(1), []int{9}, 9, true},
		{"one alone that votes for none", alike(1), []int{-1}, -1, true},
		{"one alone that votes for what is ahead of all", alike(1), []int{0}, 0, true},
		{"one alone of the greatest stake", []int{1000000}, []int{math.MaxInt}, math.MaxInt, true},
		{"one of two", alike(2), []int{-2, 9}, 0, false},
		{"two of two", alike(2), []int{9, 9}, 9, true},
		{"two of two that differ", alike(2), []int{9, 8}, 0, false},
		{"just two thirds", alike(3), []int{9, 9, -2}, 0, false},
		{"just two thirds, and another", alike(3), []int{9, 9, 8}, 0, false},
		{"all three", alike(3), []int{9, 9, 9}, 9, true},
		{"two of four", alike(4), []int{9, -2, 9, -2}, 0, false},
		{"three of four", alike(4), []int{9, -2, 9, 9}, 9, true},
		{"three of four, and another", alike(4), []int{8, 9, 9, 9}, 9, true},
		{"two and two", alike(4), []int{8, 9, 8, 9}, 0, false},
		{"two, one and one", alike(4), []int{8, 9, 8, -1}, 0, false},
		{"three that vote for none", alike(4), []int{-1, -1, 5, -1}, -1, true},
		{"three of five", alike(5), []int{9, 9, 9, -2, -2}, 0, false},
		{"four of five", alike(5), []int{9, 9, 9, 1, 9}, 9, true},
		{"four of six: just two thirds", alike(6), []int{9, 9, 9, 9, 1, 1}, 0, false},
		{"five of six", alike(6), []int{1, 9, 9, 9, 9, 9}, 9, true},
		{"four of seven", alike(7), []int{9, 9, 9, 9, 1, 1, 1}, 0, false},
		{"five of seven", alike(7), []int{9, 1, 9, 9, 1, 9, 9}, 9, true},
		{"one that has enough", []int{1, 7, 1, 1}, []int{8, 9, 8, 8}, 9, true},
		{"three that have less than one", []int{1, 7, 1, 1}, []int{8, -2, 8, 8}, 0, false},
		{"two thirds of the stakes", []int{2, 1, 1, 2}, []int{9, -2, -2, 9}, 0, false},
		{"one more", []int{2, 1, 1, 2}, []int{9, -2, 9, 9}, 9, true},
		{"great stakes: two thirds", []int{1000000, 1000000, 1000000}, []int{9, 9, -2}, 0, false},
		{"great stakes: one more", []int{1000000, 1000000, 999999}, []int{9, 9, -2}, 9, true},
		{"great stakes: one less", []int{1000000, 999999, 1000000}, []int{9, 9, -2}, 0, false},
		{"all of seven of the greatest", slices.Repeat([]int{1000000}, 7), []int{9, 9, 9, 9, 9, 9, 9}, 9, true},
	} {
		for _, kind := range kinds {
			x := New(c.stakes)
			for node, value := range c.values {
				if value >= -1 {
					x.Add(kind, 7, node, value)
				}
			}
			if got, ok := x.Most(kind, 7); got != c.want || ok != c.ok {
				t.Errorf("%s: %d %t, not %d %t", c.name, got, ok, c.want, c.ok)
			}
			for _, view := range []int{6, 8, -1, 0, 1000, 1001} {
				if got, ok := x.Most(kind, view); got != 0 || ok {
					t.Errorf("%s: in view %d, in which nobody voted, %d %t", c.name, view, got, ok)
				}
			}
			if got, ok := x.Most(9-kind, 7); got != 0 || ok {
				t.Errorf("%s: in the other kind %d %t", c.name, got, ok)
			}
			committed := kind == 5 && c.ok && c.want != -1
			if got, ok := x.Committed(); ok != committed || ok && got != c.want || !ok && got != 0 {
				t.Errorf("%s: committed of kind %d is %d %t", c.name, kind, got, ok)
			}
		}
	}
}

// TestMostIsOfOneRound: votes of both kinds, or of two views, don't add up.
func TestMostIsOfOneRound(t *testing.T) {
	x := voted(t, alike(4), [4]int{4, 2, 0, 9}, [4]int{4, 2, 1, 9}, [4]int{5, 2, 2, 9}, [4]int{5, 2, 3, 9}, [4]int{4, 3, 2, 9}, [4]int{4, 3, 3, 9}, [4]int{5, 3, 0, 9})
	for _, kind := range kinds {
		for view := range 5 {
			if value, ok := x.Most(kind, view); value != 0 || ok {
				t.Errorf("kind %d, view %d: %d", kind, view, value)
			}
		}
	}
	if value, ok := x.Committed(); value != 0 || ok {
		t.Error("committed is", value)
	}
}

// commit puts a vote of the first three of four nodes into it.
func commit(x *Tally, kind, view, value int) {
	for node := range 3 {
		x.Add(kind, view, node, value)
	}
}

func TestCommitted(t *testing.T) {
	for _, c := range []struct {
		name   string
		rounds [][3]int // a kind, a view, and what most vote for
		want   int
		ok     bool
	}{
		{"none", nil, 0, false},
		{"prepared alone", [][3]int{{4, 0, 7}}, 0, false},
		{"in the first view", [][3]int{{5, 0, 7}}, 7, true},
		{"in the last view", [][3]int{{5, 1000, 7}}, 7, true},
		{"none at all", [][3]int{{5, 2, -1}}, 0, false},
		{"what is ahead of all blocks", [][3]int{{5, 2, 0}}, 0, true},
		{"none at all, then one", [][3]int{{5, 2, -1}, {5, 3, 7}}, 7, true},
		{"none at all, then one, told otherwise", [][3]int{{5, 3, 7}, {5, 2, -1}}, 7, true},
		{"one, then none at all", [][3]int{{5, 2, 7}, {5, 3, -1}}, 7, true},
		{"the lesser view", [][3]int{{5, 2, 7}, {5, 3, 6}}, 7, true},
		{"the lesser view, told later", [][3]int{{5, 3, 6}, {5, 2, 7}}, 7, true},
		{"the lesser view, of digits", [][3]int{{5, 10, 6}, {5, 9, 7}}, 7, true},
		{"the lesser view, far off", [][3]int{{5, 1000, 6}, {5, 0, 0}}, 0, true},
		{"prepared ahead", [][3]int{{4, 1, 6}, {5, 2, 7}, {4, 0, 5}}, 7, true},
		{"prepared beside", [][3]int{{4, 2, 6}, {5, 2, 7}}, 7, true},
		{"many of none at all", [][3]int{{5, 0, -1}, {5, 1, -1}, {5, 2, -1}, {5, 4, 6}, {5, 3, 5}, {5, 5, 4}}, 5, true},
	} {
		x := New(alike(4))
		for _, r := range c.rounds {
			commit(x, r[0], r[1], r[2])
		}
		if got, ok := x.Committed(); got != c.want || ok != c.ok {
			t.Errorf("%s: %d %t, not %d %t", c.name, got, ok, c.want, c.ok)
		}
	}
}

// TestCommittedOverFew: a lesser view in which too few committed doesn't hinder.
func TestCommittedOverFew(t *testing.T) {
	x := voted(t, alike(4), [4]int{5, 0, 0, 3}, [4]int{5, 0, 1, 3}, [4]int{5, 1, 0, 3}, [4]int{5, 1, 1, 4}, [4]int{5, 1, 2, 5}, [4]int{5, 1, 3, 3})
	commit(x, 5, 2, 8)
	if got, ok := x.Committed(); got != 8 || !ok {
		t.Error(got, ok)
	}
	x.Add(5, 0, 3, 3)
	if got, ok := x.Committed(); got != 3 || !ok {
		t.Error("behind one more of a lesser view:", got, ok)
	}
}
