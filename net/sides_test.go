package net

import (
	"math"
	"testing"
)

// places are what a bit of a mask is worth, node by node.
var places = []int{1, 2, 4, 8, 16, 32, 64}

// isCut asks of each two nodes, and of numbers that no node has, whether they are on one side.
func isCut(t *testing.T, s *Sides, one []bool) {
	t.Helper()
	for a := range 7 {
		for b := range 7 {
			if got := s.Same(a, b); got != (one[a] == one[b]) {
				t.Errorf("%v: Same(%d, %d): %t", one, a, b, got)
			}
		}
	}
	for _, no := range append([]int{7, 8, 9, 63, 64, 65, 128}, far...) {
		for _, b := range []int{0, 1, 6, 7, -1, no} {
			if s.Same(no, b) || s.Same(b, no) {
				t.Errorf("%v: Same of %d and %d", one, no, b)
			}
		}
	}
}

// sidesOf answers of each node whether its bit is in a mask from 0 to 127.
func sidesOf(mask int) []bool {
	one := make([]bool, 7)
	for node := 6; node >= 0; node-- {
		if mask >= places[node] {
			one[node] = true
			mask -= places[node]
		}
	}
	return one
}

func TestNewSides(t *testing.T) { isCut(t, NewSides(), make([]bool, 7)) }

func TestCut(t *testing.T) {
	for mask := range 128 {
		s := NewSides()
		s.Cut(mask)
		isCut(t, s, sidesOf(mask))
	}
}

// TestCutAgain: what was cut ahead of it doesn't matter.
func TestCutAgain(t *testing.T) {
	s := NewSides()
	for i := range 128 {
		mask := i * 37 % 128
		s.Cut(mask)
		isCut(t, s, sidesOf(mask))
		s.Cut(mask)
		isCut(t, s, sidesOf(mask))
	}
}

// TestCutOfFarMasks: of any number it is the bits of the seven nodes that count.
func TestCutOfFarMasks(t *testing.T) {
	for _, c := range []struct{ mask, as int }{
		{128, 0}, {129, 1}, {255, 127}, {256, 0}, {1<<32 + 5, 5}, {1 << 32, 0}, {1 << 62, 0}, {1<<62 + 3, 3},
		{math.MaxInt, 127}, {math.MaxInt - 1, 126}, {math.MinInt, 0}, {math.MinInt + 9, 9}, {-1, 127}, {-2, 126}, {-128, 0}, {-127, 1}, {-6, 122},
	} {
		s := NewSides()
		s.Cut(85)
		s.Cut(c.mask)
		isCut(t, s, sidesOf(c.as))
	}
}
