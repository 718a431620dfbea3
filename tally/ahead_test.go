package tally

import (
	"math"
	"testing"
)

func TestAhead(t *testing.T) {
	for _, c := range []struct {
		name   string
		stakes []int
		votes  [][2]int // a view, and a node that votes in it
		want   map[int]int
	}{
		{"nobody", alike(4), nil, map[int]int{0: 0, 5: 5, 1000: 1000}},
		{"one alone", alike(1), [][2]int{{3, 0}}, map[int]int{-1: 3, 0: 3, 2: 3, 3: 3, 4: 4}},
		{"one of two", alike(2), [][2]int{{3, 1}}, map[int]int{0: 3, 3: 3, 4: 4}},
		{"one of three: just a third", alike(3), [][2]int{{3, 2}, {4, 2}}, map[int]int{0: 0, 2: 2, 3: 3}},
		{"two of three", alike(3), [][2]int{{3, 2}, {3, 0}}, map[int]int{0: 3, 2: 3, 3: 3}},
		{"one of four", alike(4), [][2]int{{3, 0}, {4, 0}, {9, 0}}, map[int]int{0: 0, 3: 3}},
		{"two of four", alike(4), [][2]int{{3, 0}, {3, 1}}, map[int]int{0: 3, 2: 3, 3: 3, 4: 4}},
		{"two of four, in two views", alike(4), [][2]int{{9, 0}, {3, 1}}, map[int]int{0: 3, 2: 3, 3: 3, 4: 4, 9: 9}},
		{"two of four, in two views, told otherwise", alike(4), [][2]int{{3, 1}, {9, 0}}, map[int]int{0: 3, 2: 3, 3: 3}},
		{"a lesser and a greater pair", alike(4), [][2]int{{2, 0}, {2, 1}, {6, 2}, {6, 3}}, map[int]int{0: 6, 1: 6, 5: 6, 6: 6, 7: 7}},
		{"one in many views, and another", alike(4), [][2]int{{1, 0}, {2, 0}, {3, 0}, {4, 0}, {5, 0}, {2, 1}}, map[int]int{0: 2, 1: 2, 2: 2, 3: 3, 4: 4}},
		{"the first view and the last", alike(4), [][2]int{{0, 0}, {1000, 1}}, map[int]int{-1: 0, -2: 0, 0: 0, 1: 1}},
		{"two in the last view", alike(4), [][2]int{{1000, 2}, {1000, 1}}, map[int]int{-1: 1000, 0: 1000, 999: 1000, 1000: 1000, 1001: 1001}},
		{"two in the first view", alike(4), [][2]int{{0, 2}, {0, 3}}, map[int]int{-1: 0, 0: 0}},
		{"digits", alike(4), [][2]int{{9, 2}, {10, 3}}, map[int]int{0: 9, 8: 9, 9: 9}},
		{"two of six: just a third", alike(6), [][2]int{{4, 2}, {5, 3}}, map[int]int{0: 0}},
		{"three of six", alike(6), [][2]int{{4, 2}, {5, 3}, {2, 4}}, map[int]int{0: 2, 1: 2, 2: 2}},
		{"two of seven", alike(7), [][2]int{{4, 2}, {5, 3}}, map[int]int{0: 0}},
		{"three of seven", alike(7), [][2]int{{4, 2}, {5, 3}, {4, 6}}, map[int]int{0: 4, 3: 4, 4: 4}},
		{"one that has enough", []int{1, 5, 1, 1}, [][2]int{{8, 0}, {5, 1}, {7, 2}}, map[int]int{0: 5, 5: 5, 6: 6}},
		{"two that have a third", []int{1, 4, 2, 2}, [][2]int{{8, 0}, {5, 2}}, map[int]int{0: 0}},
		{"two that have more", []int{1, 4, 2, 1}, [][2]int{{8, 0}, {5, 2}}, map[int]int{0: 5}},
		{"great stakes: a third", []int{1000000, 1000000, 1000000}, [][2]int{{8, 0}}, map[int]int{0: 0}},
		{"great stakes: one more", []int{1000000, 999999, 1000000}, [][2]int{{8, 0}}, map[int]int{0: 8}},
		{"great stakes: one less", []int{999999, 1000000, 1000000}, [][2]int{{8, 0}}, map[int]int{0: 0}},
	} {
		for _, kind := range kinds {
			x := New(c.stakes)
			for _, v := range c.votes {
				x.Add(kind, v[0], v[1], 7)
			}
			for view, want := range c.want {
				if got := x.Ahead(view); got != want {
					t.Errorf("%s: kind %d, ahead of %d: %d, not %d", c.name, kind, view, got, want)
				}
			}
		}
	}
}

// TestAheadOfBothKinds: whoever voted, in either kind, for whatever.
func TestAheadOfBothKinds(t *testing.T) {
	x := voted(t, alike(4), [4]int{4, 5, 2, 7})
	if got := x.Ahead(0); got != 0 {
		t.Error("one alone:", got)
	}
	x.Add(5, 5, 2, 7)
	if got := x.Ahead(0); got != 0 {
		t.Error("one alone, of both kinds:", got)
	}
	x.Add(5, 6, 2, 7)
	if got := x.Ahead(0); got != 0 {
		t.Error("one alone, in two views:", got)
	}
	x.Add(5, 4, 0, -1)
	if got := x.Ahead(0); got != 4 {
		t.Error("two of two kinds:", got)
	}
	x.Add(4, 5, 3, 0)
	if got := x.Ahead(0); got != 5 {
		t.Error("three:", got)
	}
	x.Add(4, 6, 3, -1)
	if got := x.Ahead(4); got != 6 {
		t.Error("two in the greatest view:", got)
	}
}

// TestAheadOfFar: views that can't be, too.
func TestAheadOfFar(t *testing.T) {
	x := voted(t, alike(4), [4]int{4, 5, 2, 7}, [4]int{4, 1000, 3, 7})
	for _, view := range []int{math.MinInt, math.MinInt + 1, -1 << 32, -1000, -1, 0, 4} {
		if got := x.Ahead(view); got != 5 {
			t.Errorf("ahead of %d: %d", view, got)
		}
	}
	for _, view := range []int{5, 6, 999, 1000, 1001, 1 << 32, math.MaxInt - 1, math.MaxInt} {
		if got := x.Ahead(view); got != view {
			t.Errorf("ahead of %d: %d", view, got)
		}
	}
}
