package tally

import (
	"math"
	"slices"
	"testing"
)

// TestStakesAreNotKept: they may be written over behind the call, and are left as they were.
func TestStakesAreNotKept(t *testing.T) {
	room := []int{1, 1, 1, 1, 9, 9, 9}
	x := New(room[:4])
	if !slices.Equal(room, []int{1, 1, 1, 1, 9, 9, 9}) {
		t.Error("what was handed in is changed:", room)
	}
	for i := range room {
		room[i] = 1000000
	}
	room[3] = 1
	for node := range 3 {
		x.Add(5, 2, node, 7)
	}
	if x.Add(5, 2, 4, 7) {
		t.Error("a node in the spare room can vote")
	}
	if value, ok := x.Most(5, 2); value != 7 || !ok {
		t.Error("the stakes are others by now:", value, ok)
	}
	room[0], room[1], room[2], room[3] = 1, 1, 1, 1000000
	if value, ok := x.Committed(); value != 7 || !ok {
		t.Error("the stakes are others by now:", value, ok)
	}
	if got := x.Ahead(0); got != 2 {
		t.Error("the stakes are others by now:", got)
	}
}

// TestStakesAreLeft: no call changes what was handed in, spare room included.
func TestStakesAreLeft(t *testing.T) {
	room := []int{3, 1, 2, 9, 9}
	x := New(room[:3])
	for _, v := range [][4]int{{4, 0, 2, 7}, {5, 1, 1, 7}, {5, 1, 0, 7}, {5, 1, 2, -1}} {
		x.Add(v[0], v[1], v[2], v[3])
		x.Vote(4, 0, 2)
		x.Who(5, 1, 7)
		x.All(5, 1)
		x.Most(5, 1)
		x.Committed()
		x.Ahead(0)
	}
	if !slices.Equal(room, []int{3, 1, 2, 9, 9}) {
		t.Error("what was handed in is changed:", room)
	}
}

// TestAnswersAreNew: no answer has memory in common with another one, or with what is kept.
func TestAnswersAreNew(t *testing.T) {
	x := New(alike(7))
	for node := range 6 {
		x.Add(4, 1, node, 7)
	}
	for name, ask := range map[string]func() []int{
		"who":        func() []int { return x.Who(4, 1, 7) },
		"all":        func() []int { return x.All(4, 1) },
		"who, none":  func() []int { return x.Who(4, 1, 8) },
		"all, none":  func() []int { return x.All(4, 2) },
		"who, never": func() []int { return x.Who(9, -1, -2) },
	} {
		one, two := ask(), ask()
		want := slices.Clone(two)
		one = one[:cap(one)]
		for i := range one {
			one[i] = 77
		}
		if !slices.Equal(two, want) || !slices.Equal(ask(), want) {
			t.Errorf("%s: %v and %v hang on another answer", name, two, ask())
		}
	}
	if value, ok := x.Most(4, 1); value != 7 || !ok {
		t.Error("what is kept hangs on an answer:", value, ok)
	}
}

// TestWhatAreNoStakes: of these only that the calls end is promised.
func TestWhatAreNoStakes(t *testing.T) {
	for _, stakes := range [][]int{nil, {}, {0}, {0, 0, 0}, {-1}, {-5, -5, 1}, {math.MinInt, math.MaxInt, 1}, {math.MaxInt, math.MaxInt}, alike(8), alike(1000)} {
		x := New(stakes)
		numbers := append([]int{0, 1, 2, 4, 5, 6, 7, 8, 999, 1000}, far...)
		for _, n := range numbers {
			for _, from := range numbers {
				for _, kind := range kinds {
					x.Add(kind, n, from, from%3)
					x.Vote(kind, n, from)
					x.Who(kind, n, from)
				}
			}
			x.All(4, n)
			x.Most(5, n)
			x.Ahead(n)
		}
		x.Committed()
	}
}

// TestNobodyIsThere: without nodes nobody can vote.
func TestNobodyIsThere(t *testing.T) {
	for _, stakes := range [][]int{nil, {}} {
		x := New(stakes)
		for _, from := range append([]int{0, 1, 6, 7}, far...) {
			if x.Add(4, 0, from, 7) {
				t.Error("taken of", from)
			}
		}
		untouched(t, "without nodes", x)
	}
}
