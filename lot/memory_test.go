package lot

import (
	"math"
	"slices"
	"testing"
)

// TestAnswersAreNewMemory: no answer has memory in common with what was handed in, or with another answer.
func TestAnswersAreNewMemory(t *testing.T) {
	draws := []int{127, 1, 0, 65}
	before := slices.Clone(draws)
	for name, ask := range map[string]func() []int{
		"all win":      func() []int { return Winners(draws, 1) },
		"one wins":     func() []int { return Winners(draws, 2) },
		"nobody wins":  func() []int { return Winners(draws, 3) },
		"no slot":      func() []int { return Winners(draws, 9) },
		"three slots":  func() []int { return Slots(draws, 0) },
		"one slot":     func() []int { return Slots(draws, 3) },
		"no such node": func() []int { return Slots(draws, 7) },
	} {
		one, two := ask(), ask()
		want := slices.Clone(two)
		one = one[:cap(one)]
		for i := range one {
			one[i] = 77
		}
		if !slices.Equal(two, want) || !slices.Equal(ask(), want) || !slices.Equal(draws, before) {
			t.Errorf("%s: %v and %v hang on another answer, or the draws %v on one", name, two, ask(), draws)
		}
	}
}

// TestNothingHandedInIsChanged: spare room included.
func TestNothingHandedInIsChanged(t *testing.T) {
	draws, who := []int{127, 1, 2, 64, 3, 3}, []int{6, 1, 0, 5, 5}
	wantDraws, wantWho := slices.Clone(draws), slices.Clone(who)
	for many := range draws {
		Check(draws[:many])
		Wins(draws[:many], 2, 0)
		Winners(draws[:many], 1)
		Slots(draws[:many], 0)
		Single(draws[1:1+many], who[:many])
	}
	if !slices.Equal(draws, wantDraws) || !slices.Equal(who, wantWho) {
		t.Error("what was handed in is changed:", draws, who)
	}
}

// TestWhatAreNoDraws: of these only that the calls end is promised.
func TestWhatAreNoDraws(t *testing.T) {
	for _, draws := range [][]int{{-1, math.MinInt, math.MaxInt, 128, 1 << 32}, make([]int, 1000), slices.Repeat([]int{-1}, 300)} {
		for _, n := range append([]int{0, 1, 2, 6, 7, 200, 201, 300, 1000}, far...) {
			for _, node := range append([]int{0, 6, 7}, far...) {
				Wins(draws, n, node)
			}
			Winners(draws, n)
			Slots(draws, n)
			Single(draws, []int{n})
		}
		Single(draws, nil)
	}
}
