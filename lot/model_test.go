package lot

import (
	"slices"
	"testing"

	"neaptide/api"
)

// written answers who wins a slot of that draw, from the greatest bit down.
func written(draw int) []int {
	var l []int
	for node, bit := 6, 64; node >= 0; node, bit = node-1, bit/2 {
		if draw >= bit {
			draw -= bit
			l = append([]int{node}, l...)
		}
	}
	return l
}

// dice answers numbers that a seed leads to.
type dice uint64

func (d *dice) next(n int) int {
	*d = *d*6364136223846793005 + 1442695040888963407
	return int(*d>>33) % n
}

// throw answers draws: often with one winner a slot, so that Single may hold.
func (d *dice) throw(many int) []int {
	l := make([]int, many)
	for i := range l {
		l[i] = []int{0, 1, 2, 4, 8, 16, 32, 64}[d.next(8)]
	}
	for range d.next(3) {
		if many > 0 {
			l[d.next(many)] = d.next(128)
		}
	}
	return l
}

// set answers some of the nodes, in any order.
func (d *dice) set() []int {
	l := []int{0, 1, 2, 3, 4, 5, 6}
	for i := range l {
		j := d.next(7)
		l[i], l[j] = l[j], l[i]
	}
	return l[:7-d.next(3)*d.next(3)]
}

// single answers by a list of all winners, slot by slot, whether each is alone and one of these.
func single(draws, who []int) bool {
	for _, draw := range draws {
		l := written(draw)
		if len(l) > 1 {
			return false
		}
		for _, node := range l {
			if !slices.Contains(who, node) {
				return false
			}
		}
	}
	return true
}

// holds tells it, if the calls answer of draws otherwise than what is written out of them.
func holds(t *testing.T, draws []int) {
	t.Helper()
	var slots [7][]int
	for i, draw := range draws {
		want := written(draw)
		if got := Winners(draws, i+1); !slices.Equal(got, want) {
			t.Fatalf("%v, slot %d: %v, not %v", draws, i+1, got, want)
		}
		for _, node := range want {
			slots[node] = append(slots[node], i+1)
		}
	}
	for node, want := range slots {
		if got := Slots(draws, node); !slices.Equal(got, want) {
			t.Fatalf("%v, node %d: %v, not %v", draws, node, got, want)
		}
		for slot := -1; slot <= len(draws)+2; slot++ {
			if got := Wins(draws, slot, node); got != slices.Contains(want, slot) {
				t.Fatalf("%v, slot %d, node %d: %v", draws, slot, node, got)
			}
		}
	}
}

func TestEachDraw(t *testing.T) {
	for draw := range 128 {
		holds(t, []int{draw})
		holds(t, []int{127 - draw, draw, 0})
	}
}

func TestModel(t *testing.T) {
	yes := 0
	for seed := range 2000 {
		d := dice(seed)
		draws, who := d.throw(d.next(20)), d.set()
		if seed%100 == 0 {
			draws = d.throw(200)
		}
		if e := Check(draws); e != api.OK {
			t.Fatalf("%v: %d", draws, e)
		}
		holds(t, draws)
		got, want := Single(draws, who), single(draws, who)
		if got != want {
			t.Fatalf("%v, of %v: %v, not %v", draws, who, got, want)
		}
		if got {
			yes++
		}
	}
	if yes < 200 || yes > 1800 {
		t.Error("of 2000 draws single are", yes)
	}
}
