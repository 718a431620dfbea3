package view

import (
	"math"
	"testing"
)

// ticks tells it, if a timer isn't over with that tick and all behind it, and with none ahead of it.
func ticks(t *testing.T, x *Timer, many int) {
	t.Helper()
	for i := 1; i <= many+3; i++ {
		over, left := x.Tick(), max(many-i, 0)
		if over != (i >= many) || x.Left != left {
			t.Fatalf("of %d ticks the %d. one: %d left, not %d, and %t", many, i, x.Left, left, over)
		}
	}
}

func TestTimerOfNothing(t *testing.T) {
	ticks(t, &Timer{}, 1)
}

// TestSet: it is the Patience, whatever was left.
func TestSet(t *testing.T) {
	for _, c := range []struct{ view, base, most, want int }{
		{0, 2, 9, 2},
		{1, 2, 9, 4},
		{2, 2, 9, 8},
		{3, 2, 9, 9},
		{0, 1, 1, 1},
		{0, 100, 1000, 100},
		{9, 1, 1000, 512},
		{1000, 1, 1000, 1000},
		{-1, 2, 9, 9},
		{0, 0, 9, 9},
		{0, 101, 9, 9},
		{0, 2, 0, 1000},
		{0, 2, 1001, 1000},
		{math.MinInt, math.MinInt, math.MinInt, 1000},
		{math.MaxInt, math.MaxInt, math.MaxInt, 1000},
		{math.MaxInt, 100, 1, 1},
	} {
		for _, left := range []int{0, 1, 5, -1, math.MinInt, math.MaxInt} {
			x := Timer{Left: left}
			x.Set(c.view, c.base, c.most)
			if x.Left != c.want {
				t.Errorf("%d, set for view %d, base %d, at most %d: %d left, not %d", left, c.view, c.base, c.most, x.Left, c.want)
			}
			ticks(t, &x, c.want)
		}
	}
}

// TestSetAnew: one that is over, or in the midst, waits anew.
func TestSetAnew(t *testing.T) {
	for _, gone := range []int{0, 1, 3, 4, 5, 9} {
		x := Timer{}
		x.Set(2, 1, 10)
		for range gone {
			x.Tick()
		}
		x.Set(3, 1, 6)
		ticks(t, &x, 6)
	}
}

func TestTick(t *testing.T) {
	for _, c := range []struct {
		left, want int
		over       bool
	}{
		{0, 0, true},
		{1, 0, true},
		{2, 1, false},
		{3, 2, false},
		{1000, 999, false},
		{1001, 1000, false},
		{math.MaxInt, math.MaxInt - 1, false},
		{-1, 0, true},
		{-2, 0, true},
		{-1000, 0, true},
		{math.MinInt + 1, 0, true},
		{math.MinInt, 0, true},
	} {
		x := Timer{Left: c.left}
		if over := x.Tick(); over != c.over || x.Left != c.want {
			t.Errorf("%d: %d left, not %d, and %t", c.left, x.Left, c.want, over)
		}
	}
}

// TestTimersAreApart: one of them is a value of its own, copied whole.
func TestTimersAreApart(t *testing.T) {
	x := Timer{}
	x.Set(1, 2, 50)
	y := x
	x.Tick()
	if x.Left != 3 || y.Left != 4 {
		t.Error(x, y)
	}
	y.Set(0, 1, 50)
	if x.Left != 3 || y.Left != 1 {
		t.Error(x, y)
	}
}
