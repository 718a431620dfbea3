package ledger

import (
	"math"
	"slices"
	"testing"
)

func TestClean(t *testing.T) {
	for _, c := range []struct {
		what  string
		lists [][]int
		want  []int
	}{
		{"no lists", nil, nil},
		{"lists without elements", [][]int{nil, {}, nil}, nil},
		{"one number", [][]int{{7}}, []int{7}},
		{"0 is a number", [][]int{{0}, {1, 0}}, []int{0, 1}},
		{"none comes twice", [][]int{{5, 9, 2}}, []int{5, 9, 2}},
		{"twice side by side", [][]int{{5, 5, 2, 2, 2}}, []int{5, 2}},
		{"twice with others between", [][]int{{5, 2, 5, 9, 2, 5}}, []int{5, 2, 9}},
		{"rising stays rising", [][]int{{1, 2}, {3, 4}}, []int{1, 2, 3, 4}},
		{"falling stays falling", [][]int{{4, 3}, {2, 1}}, []int{4, 3, 2, 1}},
		{"one list twice", [][]int{{3, 1}, {3, 1}}, []int{3, 1}},
		{"the first place counts", [][]int{{3, 1}, {2, 3}, {1, 4, 2}}, []int{3, 1, 2, 4}},
		{"a list that has nothing new between", [][]int{{3, 1}, {1}, {2}}, []int{3, 1, 2}},
		{"a list without elements between", [][]int{{3}, nil, {1, 3}}, []int{3, 1}},
		{"below 0", [][]int{{-1, 1}, {1, -1, -2}}, []int{-1, 1, -2}},
		{"far ones", [][]int{{math.MinInt, math.MaxInt}, {math.MaxInt, 0, math.MinInt}}, []int{math.MinInt, math.MaxInt, 0}},
		{"alike in their low bits", [][]int{{1, 1<<32 + 1, 1<<62 + 1}, {1<<32 + 1}}, []int{1, 1<<32 + 1, 1<<62 + 1}},
	} {
		if got := Clean(c.lists...); !slices.Equal(got, c.want) {
			t.Errorf("%s: Clean(%v): %v, not %v", c.what, c.lists, got, c.want)
		}
	}
}

// TestCleanOfOneList: it hangs on the numbers one behind the other, not on where one list ends.
func TestCleanOfOneList(t *testing.T) {
	all := []int{4, 1, 4, -3, 0, 1, 9, 9, 4, 0, 2}
	want := []int{4, 1, -3, 0, 9, 2}
	for i := range len(all) + 1 {
		for j := i; j <= len(all); j++ {
			if got := Clean(all[:i], all[i:j], all[j:]); !slices.Equal(got, want) {
				t.Errorf("cut at %d and %d: %v, not %v", i, j, got, want)
			}
		}
	}
}

// TestCleanOfMany: of many numbers, and of many lists.
func TestCleanOfMany(t *testing.T) {
	var long []int
	for i := range 300000 {
		long = append(long, i*i%1000003)
	}
	var lists [][]int
	for i := range long {
		lists = append(lists, long[i:min(i+2, len(long))])
	}
	want := Clean(long)
	if sorted := slices.Sorted(slices.Values(want)); len(want) < 200000 || len(slices.Compact(sorted)) != len(want) {
		t.Error("too few are left, or one comes twice:", len(want))
	}
	if got := Clean(lists...); !slices.Equal(got, want) {
		t.Error("many lists aren't one")
	}
}
