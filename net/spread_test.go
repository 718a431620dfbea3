package net

import (
	"slices"
	"testing"
)

func TestSpread(t *testing.T) {
	for _, c := range []struct {
		what            string
		to, from, nodes int
		want            []int
	}{
		{"all", -1, 0, 4, []int{1, 2, 3}},
		{"all, from one in the midst", -1, 2, 4, []int{0, 1, 3}},
		{"all, from the last", -1, 3, 4, []int{0, 1, 2}},
		{"all, from one that is none of them", -1, 4, 4, []int{0, 1, 2, 3}},
		{"all, from one below them", -1, -1, 4, []int{0, 1, 2, 3}},
		{"all of one", -1, 0, 1, nil},
		{"all of one, from another", -1, 1, 1, []int{0}},
		{"all of seven", -1, 6, 7, []int{0, 1, 2, 3, 4, 5}},
		{"all of eight", -1, 0, 8, nil},
		{"all of none", -1, 5, 0, nil},
		{"all of fewer than none", -1, 5, -1, nil},
		{"one", 0, 3, 4, []int{0}},
		{"the last", 3, 0, 4, []int{3}},
		{"itself", 2, 2, 4, nil},
		{"the one behind the last", 4, 0, 4, nil},
		{"one below all", -2, 0, 4, nil},
		{"one, from one that is none of them", 1, 9, 2, []int{1}},
		{"one, from one below all", 1, -1, 2, []int{1}},
		{"one of one, from another", 0, -1, 1, []int{0}},
		{"one of eight", 1, 0, 8, nil},
		{"one of none", 0, 1, 0, nil},
		{"the seventh of seven", 6, 0, 7, []int{6}},
		{"the eighth of seven", 7, 0, 7, nil},
	} {
		if got := Spread(c.to, c.from, c.nodes); !slices.Equal(got, c.want) {
			t.Errorf("%s: Spread(%d, %d, %d): %v, not %v", c.what, c.to, c.from, c.nodes, got, c.want)
		}
	}
}

// spread answers the same by asking of each case alone.
func spread(to, from, nodes int) []int {
	if nodes < 1 || nodes > 7 {
		return nil
	}
	if to == -1 {
		return slices.DeleteFunc(run(0, nodes-1), func(node int) bool { return node == from })
	}
	if to < 0 || to >= nodes || to == from {
		return nil
	}
	return []int{to}
}

// TestSpreadOfAll: all numbers that are near, and such as only look like them.
func TestSpreadOfAll(t *testing.T) {
	numbers := append(run(-3, 10), far...)
	for _, to := range numbers {
		for _, from := range numbers {
			for _, nodes := range numbers {
				if got, want := Spread(to, from, nodes), spread(to, from, nodes); !slices.Equal(got, want) {
					t.Errorf("Spread(%d, %d, %d): %v, not %v", to, from, nodes, got, want)
				}
			}
		}
	}
}
