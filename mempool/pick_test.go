package mempool

import (
	"math"
	"slices"
	"testing"

	"neaptide/api"
)

// picks tells it, if a pool doesn't answer these, or is changed by being asked.
func picks(t *testing.T, p *Pool, many int, skip []int, want ...api.Tx) {
	t.Helper()
	before := p.List()
	if got := p.Pick(many, skip...); !slices.Equal(got, want) {
		t.Errorf("Pick(%d, %v): %v, not %v", many, skip, got, want)
	}
	if got := p.List(); !slices.Equal(got, before) {
		t.Errorf("Pick(%d, %v) led from %v to %v", many, skip, before, got)
	}
}

func TestPickSoMany(t *testing.T) {
	p := full(t)
	for many := range 17 {
		picks(t, p, many, nil, run(11, 10+many, 5)...)
		picks(t, p, many, []int{}, run(11, 10+many, 5)...)
	}
}

func TestPickFewer(t *testing.T) {
	few := filled(t, run(3, 5, 2)...)
	for _, many := range []int{3, 4, 16, 17, 1 << 31, 1 << 32, 1<<32 + 1, math.MaxInt - 1, math.MaxInt} {
		picks(t, New(), many, nil)
		picks(t, few, many, nil, run(3, 5, 2)...)
		picks(t, few, many, []int{4}, api.Tx{ID: 3, Fee: 2}, api.Tx{ID: 5, Fee: 2})
		picks(t, few, many, []int{5, 4, 3})
	}
}

func TestPickNone(t *testing.T) {
	p := full(t)
	for _, many := range []int{0, -1, -2, -16, -1 << 31, -1 << 32, 1 - 1<<32, math.MinInt + 1, math.MinInt} {
		picks(t, p, many, nil)
		picks(t, p, many, []int{11})
		picks(t, New(), many, nil)
	}
}

// TestPickSkips: those that are skipped don't count for how many.
func TestPickSkips(t *testing.T) {
	for _, c := range []struct {
		many int
		skip []int
		want []api.Tx
	}{
		{1, []int{11}, run(12, 12, 5)},
		{3, []int{11, 12}, run(13, 15, 5)},
		{3, []int{12, 11}, run(13, 15, 5)},
		{2, []int{12}, []api.Tx{{ID: 11, Fee: 5}, {ID: 13, Fee: 5}}},
		{2, []int{13}, run(11, 12, 5)},
		{2, []int{13, 12, 13, 12}, []api.Tx{{ID: 11, Fee: 5}, {ID: 14, Fee: 5}}},
		{15, []int{26}, run(11, 25, 5)},
		{16, []int{26}, run(11, 25, 5)},
		{99, []int{11, 26}, run(12, 25, 5)},
		{2, []int{5, 0, -11, 10, 27, 1<<32 + 11, math.MinInt, math.MaxInt}, run(11, 12, 5)},
		{2, []int{99, 11, -1}, run(12, 13, 5)},
		{0, []int{11}, nil},
	} {
		picks(t, full(t), c.many, c.skip, c.want...)
	}
}

func TestPickSkipsAll(t *testing.T) {
	var skip []int
	for id := range 200000 {
		skip = append(skip, id)
	}
	picks(t, full(t), 16, skip)
	picks(t, full(t), 16, skip[27:], run(11, 26, 5)...)
}

// TestPickOfUnlikeFees: what is skipped is asked of the ID, not of the place or the fee.
func TestPickOfUnlikeFees(t *testing.T) {
	p := filled(t, api.Tx{ID: 1, Fee: 3}, api.Tx{ID: 2, Fee: 1}, api.Tx{ID: 3, Fee: 2}, api.Tx{ID: 4})
	picks(t, p, 2, []int{1}, api.Tx{ID: 3, Fee: 2}, api.Tx{ID: 2, Fee: 1})
	picks(t, p, 2, []int{3}, api.Tx{ID: 1, Fee: 3}, api.Tx{ID: 2, Fee: 1})
	picks(t, p, 4, []int{0, 2}, api.Tx{ID: 1, Fee: 3}, api.Tx{ID: 3, Fee: 2}, api.Tx{ID: 4})
}
