package lot

import (
	"math"
	"slices"
	"testing"

	"neaptide/api"
)

// far are numbers that no slot and no node has.
var far = []int{math.MinInt, math.MinInt + 1, -1 << 32, -1<<32 + 1, -200, -64, -7, -1, 1<<32 - 1, 1 << 32, 1<<32 + 1, math.MaxInt - 1, math.MaxInt}

func TestCheck(t *testing.T) {
	long := func(n, draw int) []int {
		l := make([]int, n)
		for i := range l {
			l[i] = draw
		}
		return l
	}
	with := func(n, place, draw int) []int {
		l := long(n, 127)
		l[place] = draw
		return l
	}
	for _, c := range []struct {
		name  string
		draws []int
		want  api.Errno
	}{
		{"nil", nil, 0},
		{"empty", []int{}, 0},
		{"nobody", []int{0}, 0},
		{"all", []int{127}, 0},
		{"a few", []int{1, 6, 0, 64, 127}, 0},
		{"one less than the most", long(199, 0), 0},
		{"the most", long(200, 0), 0},
		{"the most, of all", long(200, 127), 0},
		{"one too many", long(201, 0), 101},
		{"one too many, of all", long(201, 127), 101},
		{"far too many", long(5000, 3), 101},
		{"below", []int{-1}, 101},
		{"above", []int{128}, 101},
		{"above, with a bit that counts", []int{129}, 101},
		{"above, with all bits", []int{255}, 101},
		{"a bit of 32 more", []int{1<<32 + 1}, 101},
		{"the greatest", []int{math.MaxInt}, 101},
		{"the least", []int{math.MinInt}, 101},
		{"the least, and bits that count", []int{math.MinInt + 127}, 101},
		{"wrong at its beginning", with(200, 0, 128), 101},
		{"wrong in its midst", with(200, 100, -127), 101},
		{"wrong at its end", with(200, 199, 128), 101},
		{"one wrong one makes up for no other", []int{128, -128}, 101},
	} {
		if got := Check(c.draws); got != c.want {
			t.Errorf("%s: %d, not %d", c.name, got, c.want)
		}
	}
	for draw := -300; draw <= 300; draw++ {
		want := api.OK
		if draw < 0 || draw > 127 {
			want = api.ErrLot
		}
		if got := Check([]int{5, draw, 5}); got != want {
			t.Errorf("draw %d: %d, not %d", draw, got, want)
		}
	}
}

func TestExample(t *testing.T) {
	draws := []int{1, 6}
	if got := Winners(draws, 1); !slices.Equal(got, []int{0}) {
		t.Error("slot 1:", got)
	}
	if got := Winners(draws, 2); !slices.Equal(got, []int{1, 2}) {
		t.Error("slot 2:", got)
	}
	if Single(draws, []int{0, 1, 2}) {
		t.Error("two win in slot 2")
	}
}

// TestEachBit: each node has a bit of its own, and it counts in its own slot alone.
func TestEachBit(t *testing.T) {
	for node, bit := range []int{1, 2, 4, 8, 16, 32, 64} {
		draws := []int{0, bit, 127 - bit, 127, 0}
		for other := range 7 {
			same := other == node
			for slot, want := range []bool{false, false, same, !same, true, false, false} {
				if got := Wins(draws, slot, other); got != want {
					t.Errorf("bit %d, slot %d, node %d: %v", bit, slot, other, got)
				}
			}
		}
		if got := Winners(draws, 2); !slices.Equal(got, []int{node}) {
			t.Errorf("bit %d: %v win", bit, got)
		}
		if got := Slots(draws, node); !slices.Equal(got, []int{2, 4}) {
			t.Errorf("bit %d: its node wins in %v", bit, got)
		}
	}
}

// TestSlotsThatAreNone: ahead of the first slot and behind the last one nobody wins.
func TestSlotsThatAreNone(t *testing.T) {
	for many := range 201 {
		draws := slices.Repeat([]int{127}, many)
		for _, slot := range append([]int{0, many + 1, many + 2, 201}, far...) {
			if got := Winners(draws, slot); len(got) != 0 {
				t.Errorf("%d draws, slot %d: %v win", many, slot, got)
			}
			for node := range 7 {
				if Wins(draws, slot, node) {
					t.Errorf("%d draws, slot %d: node %d wins", many, slot, node)
				}
			}
		}
		for _, slot := range []int{1, many} {
			if many > 0 && !Wins(draws, slot, 6) {
				t.Errorf("%d draws: node 6 doesn't win in slot %d", many, slot)
			}
		}
	}
}

// TestNodesThatAreNone: what isn't from 0 to 6 wins nowhere.
func TestNodesThatAreNone(t *testing.T) {
	draws := slices.Repeat([]int{127}, 200)
	for _, node := range append([]int{7, 8, 63, 64, 65, 128}, far...) {
		for _, slot := range append([]int{0, 1, 2, 100, 200, 201}, far...) {
			if Wins(draws, slot, node) {
				t.Errorf("node %d wins in slot %d", node, slot)
			}
		}
		if got := Slots(draws, node); len(got) != 0 {
			t.Errorf("node %d wins in %v", node, got)
		}
	}
}

func TestWinnersRise(t *testing.T) {
	draws := []int{127, 0, 85, 42, 65}
	for i, want := range [][]int{{}, {0, 1, 2, 3, 4, 5, 6}, {}, {0, 2, 4, 6}, {1, 3, 5}, {0, 6}, {}} {
		if got := Winners(draws, i); !slices.Equal(got, want) {
			t.Errorf("slot %d: %v, not %v", i, got, want)
		}
	}
}

func TestSlots(t *testing.T) {
	draws := []int{1, 6, 0, 5, 64, 3}
	for node, want := range [][]int{{1, 4, 6}, {2, 6}, {2, 4}, {}, {}, {}, {5}, {}} {
		if got := Slots(draws, node); !slices.Equal(got, want) {
			t.Errorf("node %d: %v, not %v", node, got, want)
		}
	}
	if len(Slots(nil, 0)) != 0 {
		t.Error("a node wins where there are no draws")
	}
	all := Slots(slices.Repeat([]int{64}, 200), 6)
	if len(all) != 200 || all[0] != 1 || all[199] != 200 || !slices.IsSorted(all) {
		t.Error("who wins all 200 slots wins in", all)
	}
}

func TestSingle(t *testing.T) {
	everybody := []int{0, 1, 2, 3, 4, 5, 6}
	for _, c := range []struct {
		name       string
		draws, who []int
		want       bool
	}{
		{"no slots", nil, nil, true},
		{"no slots, and somebody", nil, everybody, true},
		{"nobody wins, and it may be nobody", []int{0, 0}, nil, true},
		{"one wins, and it may be nobody", []int{0, 1}, nil, false},
		{"one wins who may", []int{0, 1}, []int{0}, true},
		{"one wins who may not", []int{0, 1}, []int{1, 2, 3, 4, 5, 6}, false},
		{"each wins once", []int{1, 2, 4, 8, 16, 32, 64}, everybody, true},
		{"each wins once, told otherwise", []int{64, 0, 2, 1}, []int{6, 0, 1}, true},
		{"told twice", []int{2, 2}, []int{1, 1, 1}, true},
		{"not all of those win", []int{2, 2}, []int{5, 1, 3}, true},
		{"two win at the beginning", []int{3, 1, 2}, everybody, false},
		{"two win in the midst", []int{1, 96, 2}, everybody, false},
		{"two win at the end", []int{1, 2, 65}, everybody, false},
		{"all win", []int{127}, everybody, false},
		{"another wins at the beginning", []int{4, 1, 2}, []int{0, 1}, false},
		{"another wins in the midst", []int{1, 4, 2}, []int{0, 1}, false},
		{"another wins at the end", []int{1, 2, 4}, []int{0, 1}, false},
		{"two win of whom one may", []int{3}, []int{0}, false},
		{"two win of whom the other may", []int{3}, []int{1}, false},
		{"numbers that no node has", []int{1}, far, false},
		{"numbers that no node has, and one that one has", []int{1}, append([]int{7, 64}, append(far, 0)...), true},
		{"what looks like a bit", []int{2}, []int{2}, false},
		{"what looks like a slot", []int{2, 2}, []int{2}, false},
		{"the last node", slices.Repeat([]int{64}, 200), []int{6}, true},
	} {
		if got := Single(c.draws, c.who); got != c.want {
			t.Errorf("%s: %v", c.name, got)
		}
	}
}
