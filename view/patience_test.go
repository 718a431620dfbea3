package view

import (
	"math"
	"math/big"
	"testing"
)

func TestExample(t *testing.T) {
	for view, want := range []int{3, 6, 10, 10} {
		if got := Patience(view, 3, 10); got != want {
			t.Errorf("view %d: %d, not %d", view, got, want)
		}
	}
}

func TestPatience(t *testing.T) {
	for _, c := range []struct{ view, base, most, want int }{
		{0, 1, 1, 1},
		{1, 1, 1, 1},
		{0, 1, 1000, 1},
		{1, 1, 1000, 2},
		{9, 1, 1000, 512},
		{10, 1, 1000, 1000},
		{1000, 1, 1000, 1000},
		{0, 2, 50, 2},
		{4, 2, 50, 32},
		{5, 2, 50, 50},
		{4, 2, 32, 32},
		{4, 2, 33, 32},
		{4, 2, 31, 31},
		{0, 100, 1000, 100},
		{3, 100, 1000, 800},
		{4, 100, 1000, 1000},
		{3, 100, 799, 799},
		{0, 100, 1, 1},
		{0, 8, 7, 7},
		{0, 7, 7, 7},
		{3, 99, 1000, 792},
		{3, 99, 791, 791},
	} {
		if got := Patience(c.view, c.base, c.most); got != c.want {
			t.Errorf("view %d, base %d, at most %d: %d, not %d", c.view, c.base, c.most, got, c.want)
		}
	}
}

// powered answers the BASE times the power in numbers without bounds, or the CAP.
func powered(view, base, most int) int {
	wait := new(big.Int).Lsh(big.NewInt(int64(base)), uint(view))
	if wait.Cmp(big.NewInt(int64(most))) > 0 {
		return most
	}
	return int(wait.Int64())
}

// TestPatienceOfAll: each BASE and CAP, in views up to those where the power has more bits than a number has.
func TestPatienceOfAll(t *testing.T) {
	for base := 1; base <= 100; base++ {
		for most := 1; most <= 1000; most++ {
			for _, view := range []int{0, 1, 2, 3, 4, 5, 6, 7, 8, 9, 10, 11, 31, 32, 63, 64} {
				if got, want := Patience(view, base, most), powered(view, base, most); got != want {
					t.Fatalf("view %d, base %d, at most %d: %d, not %d", view, base, most, got, want)
				}
			}
		}
	}
}

// TestPatienceOfGreatViews: any view from 0 on is one, also where no cluster gets.
func TestPatienceOfGreatViews(t *testing.T) {
	for _, base := range []int{1, 2, 3, 64, 100} {
		for _, most := range []int{1, 7, 512, 1000} {
			for view := 10; view <= 2000; view++ {
				if got := Patience(view, base, most); got != most {
					t.Fatalf("view %d, base %d, at most %d: %d", view, base, most, got)
				}
			}
			for _, view := range []int{1 << 16, 1<<31 - 1, 1 << 31, 1 << 32, 1<<32 + 1, 1 << 62, math.MaxInt - 1, math.MaxInt} {
				if got := Patience(view, base, most); got != most {
					t.Errorf("view %d, base %d, at most %d: %d", view, base, most, got)
				}
			}
		}
	}
}

// TestPatienceIsTheCap: where the view is below 0, or BASE can't be.
func TestPatienceIsTheCap(t *testing.T) {
	for _, most := range []int{1, 2, 50, 999, 1000} {
		for _, view := range []int{math.MinInt, math.MinInt + 1, -1 << 32, -64, -2, -1} {
			for _, base := range append([]int{1, 2, 50, 100}, refused(1, 100)...) {
				if got := Patience(view, base, most); got != most {
					t.Errorf("view %d, base %d, at most %d: %d", view, base, most, got)
				}
			}
		}
		for _, base := range append([]int{101, 102, 200, 1000}, refused(1, 100)...) {
			for _, view := range []int{0, 1, 2, 10, 64, 1000, math.MaxInt} {
				if got := Patience(view, base, most); got != most {
					t.Errorf("view %d, base %d, at most %d: %d", view, base, most, got)
				}
			}
		}
	}
}

// TestPatienceWithoutCap: a CAP that can't be is 1000, whatever the view and the BASE are.
func TestPatienceWithoutCap(t *testing.T) {
	for _, most := range refused(1, 1000) {
		for _, view := range append([]int{0, 1, 2, 9, 10, 1000}, far...) {
			for _, base := range append([]int{0, 1, 2, 50, 100, 101}, far...) {
				if got := Patience(view, base, most); got != 1000 {
					t.Errorf("view %d, base %d, at most %d: %d", view, base, most, got)
				}
			}
		}
	}
}
