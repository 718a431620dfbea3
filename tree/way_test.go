package tree

import (
	"math"
	"slices"
	"testing"

	"neaptide/api"
)

// strangers are numbers that no block of grown has for a name: none's, names that are gone, wait, or are missing, and such as would be known if their high bits were lost.
var strangers = []int{
	1, -1, 255, 256, n(7), n(9), n(10), n(11), n(12), n(13), n(1) + 1, n(1) - 1, -n(1), n(4096), nameOf(1, 7, 0),
	n(1) + 1<<32, n(3) + 1<<62, math.MinInt, math.MinInt + n(1), math.MaxInt,
}

// ways are the ways of all that are known in grown.
var ways = [][]int{{n(1)}, {n(1), n(2)}, {n(1), n(3)}, {n(1), n(3), n(4)}, {n(1), n(3), n(5)}, {n(6)}}

// steps are far beyond what any way has.
var steps = []int{100, 400, 1 << 31, 1 << 32, 1<<32 + 1, 1 << 62, math.MaxInt - 1, math.MaxInt}

func TestHeight(t *testing.T) {
	x := grown(t)
	if h := x.Height(0); h != 0 {
		t.Error("of 0:", h)
	}
	for _, way := range ways {
		if h := x.Height(way[len(way)-1]); h != len(way) {
			t.Errorf("at the end of %v: %d", way, h)
		}
	}
	for _, name := range strangers {
		if h := x.Height(name); h != -1 {
			t.Errorf("of %d: %d", name, h)
		}
	}
	if h := New().Height(0); h != 0 {
		t.Error("of 0 without blocks:", h)
	}
}

func TestPath(t *testing.T) {
	x := grown(t)
	for _, way := range ways {
		if p := x.Path(way[len(way)-1]); !slices.Equal(p, way) {
			t.Errorf("%v, not %v", p, way)
		}
	}
	for _, name := range append([]int{0}, strangers...) {
		if p := x.Path(name); len(p) != 0 {
			t.Errorf("to %d: %v", name, p)
		}
	}
}

func TestBack(t *testing.T) {
	x := grown(t)
	for _, way := range ways {
		name := way[len(way)-1]
		for down := range len(way) {
			if got := x.Back(name, down); got != way[len(way)-1-down] {
				t.Errorf("on %v %d down: %d", way, down, got)
			}
		}
		for _, many := range append([]int{len(way), len(way) + 1, len(way) + 2}, steps...) {
			if got := x.Back(name, many); got != 0 {
				t.Errorf("on %v %d down: %d", way, many, got)
			}
		}
		for _, none := range []int{0, -1, -2, -400, -1 << 32, 1 - 1<<62, math.MinInt, math.MinInt + 1} {
			if got := x.Back(name, none); got != name {
				t.Errorf("on %v %d down: %d", way, none, got)
			}
		}
	}
}

// TestBackOfStrangers: of one that isn't known it is 0, itself not even by no steps.
func TestBackOfStrangers(t *testing.T) {
	x := grown(t)
	for _, name := range append([]int{0}, strangers...) {
		for _, many := range append([]int{math.MinInt, math.MinInt + 1, -2, -1, 0, 1, 2, 3}, steps...) {
			if got := x.Back(name, many); got != 0 {
				t.Errorf("of %d %d down: %d", name, many, got)
			}
		}
	}
}

func TestCommon(t *testing.T) {
	x := grown(t)
	for _, c := range []struct{ a, b, last int }{
		{1, 1, 1}, {2, 2, 2}, {5, 5, 5}, {6, 6, 6},
		{1, 2, 1}, {1, 3, 1}, {1, 4, 1}, {1, 5, 1}, {3, 4, 3}, {3, 5, 3},
		{2, 3, 1}, {2, 4, 1}, {2, 5, 1}, {4, 5, 3},
		{1, 6, 0}, {2, 6, 0}, {3, 6, 0}, {4, 6, 0}, {5, 6, 0},
	} {
		if got := x.Common(n(c.a), n(c.b)); got != n(c.last) {
			t.Errorf("of %d and %d: %d, not of %d", c.a, c.b, got, c.last)
		}
		if got := x.Common(n(c.b), n(c.a)); got != n(c.last) {
			t.Errorf("of %d and %d: %d, not of %d", c.b, c.a, got, c.last)
		}
	}
	strange := append([]int{0}, strangers...)
	for _, a := range strange {
		for _, b := range append(slices.Clone(strange), n(1), n(4), n(6)) {
			if x.Common(a, b) != 0 || x.Common(b, a) != 0 {
				t.Errorf("of %d and %d: %d and %d", a, b, x.Common(a, b), x.Common(b, a))
			}
		}
	}
}

// TestCommonOfLongWays: two ways part where they part, and that both have as many blocks ahead of it or behind it says nothing.
func TestCommonOfLongWays(t *testing.T) {
	const at, end = 50, 150
	x := New()
	adds(t, x, on(0, 1), n(1))
	for slot := 2; slot <= end; slot++ {
		adds(t, x, on(n(slot-1), slot), n(slot))
	}
	below := n(at)
	for slot := at + 1; slot <= end; slot++ {
		adds(t, x, api.Block{Slot: slot, Miner: 1, Parent: below}, nameOf(slot, 1, 0))
		below = nameOf(slot, 1, 0)
	}
	for _, slot := range []int{1, 2, at - 1, at, at + 1, end} {
		want := n(min(slot, at))
		if got := x.Common(n(slot), below); got != want {
			t.Errorf("with %d: %d, not %d", slot, got, want)
		}
	}
	if x.Height(below) != end || x.Back(below, end-at) != n(at) || x.Back(below, end-at-1) != nameOf(at+1, 1, 0) || x.Back(below, end-1) != n(1) || x.Back(below, end) != 0 {
		t.Error("the way to", below, "is", x.Path(below))
	}
}
