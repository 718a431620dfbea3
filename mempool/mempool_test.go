package mempool

import (
	"math"
	"slices"
	"testing"

	"neaptide/api"
)

// filled answers a pool with these transactions, which all are taken.
func filled(t *testing.T, txs ...api.Tx) *Pool {
	t.Helper()
	p := New()
	for _, x := range txs {
		adds(t, p, x)
	}
	return p
}

// adds adds a transaction that is to be taken.
func adds(t *testing.T, p *Pool, x api.Tx) {
	t.Helper()
	if e := p.Add(x); e != api.OK {
		t.Errorf("Add(%v): %d", x, e)
	}
}

// refuses adds a transaction that is to be refused, with nothing changed by that.
func refuses(t *testing.T, p *Pool, x api.Tx, want api.Errno) {
	t.Helper()
	before := p.List()
	if e := p.Add(x); e != want {
		t.Errorf("Add(%v): %d, not %d", x, e, want)
	}
	if got := p.List(); !slices.Equal(got, before) {
		t.Errorf("Add(%v) led from %v to %v", x, before, got)
	}
}

// lists tells it, if a pool doesn't have these transactions in this order.
func lists(t *testing.T, p *Pool, want ...api.Tx) {
	t.Helper()
	if got := p.List(); !slices.Equal(got, want) {
		t.Errorf("it has %v, not %v", got, want)
	}
}

// run answers transactions of one fee with the IDs from one on to another.
func run(from, to, fee int) []api.Tx {
	var l []api.Tx
	for id := from; id <= to; id++ {
		l = append(l, api.Tx{ID: id, Fee: fee})
	}
	return l
}

// full answers a pool with the IDs 11 to 26 and a fee of 5.
func full(t *testing.T) *Pool {
	t.Helper()
	return filled(t, run(11, 26, 5)...)
}

func TestNewIsEmpty(t *testing.T) {
	p := New()
	if len(p.List()) != 0 || len(p.Pick(1)) != 0 || len(p.Pick(math.MaxInt)) != 0 {
		t.Error("a new pool has", p.List())
	}
	p.Drop(1, 2)
	lists(t, p)
	adds(t, p, api.Tx{ID: 1})
	if len(New().List()) != 0 {
		t.Error("two pools have one thing in common")
	}
}

func TestExample(t *testing.T) {
	p := filled(t, api.Tx{ID: 1, Fee: 1}, api.Tx{ID: 2, Fee: 5}, api.Tx{ID: 3, Fee: 3})
	want := []api.Tx{{ID: 2, Fee: 5}, {ID: 3, Fee: 3}}
	if got := p.Pick(2); !slices.Equal(got, want) {
		t.Errorf("%v, not %v", got, want)
	}
}

// TestPlace: the one that pays more goes ahead, of those that pay the same the one with the lesser ID, whichever came first.
func TestPlace(t *testing.T) {
	a, b, c, d := api.Tx{ID: 9, Fee: 7}, api.Tx{ID: 2, Fee: 4}, api.Tx{ID: 3, Fee: 4}, api.Tx{ID: 1}
	for _, order := range [][]api.Tx{{a, b, c, d}, {d, c, b, a}, {c, a, d, b}, {b, d, a, c}, {c, b, a, d}, {a, d, c, b}} {
		lists(t, filled(t, order...), a, b, c, d)
	}
}

func TestEdgesOfRight(t *testing.T) {
	p := filled(t, api.Tx{ID: 1}, api.Tx{ID: 1000000, Fee: 1000}, api.Tx{ID: 2, Fee: 1000}, api.Tx{ID: 999999})
	lists(t, p, api.Tx{ID: 2, Fee: 1000}, api.Tx{ID: 1000000, Fee: 1000}, api.Tx{ID: 1}, api.Tx{ID: 999999})
}

func TestWrongIsErrTx(t *testing.T) {
	wrong := []api.Tx{{}, {Fee: 5}, {ID: 1, Fee: -1}, {ID: 1, Fee: 1001}, {ID: 11, Fee: 1001}, {ID: 11, Fee: -1}}
	for _, id := range []int{-1, -11, 1000001, 1<<32 + 11, 1<<32 + 1, math.MinInt, math.MaxInt} {
		wrong = append(wrong, api.Tx{ID: id}, api.Tx{ID: id, Fee: 5}, api.Tx{ID: id, Fee: 1000}, api.Tx{ID: id, Fee: 1001})
	}
	for _, fee := range []int{1<<32 + 5, math.MinInt, math.MaxInt} {
		wrong = append(wrong, api.Tx{ID: 1, Fee: fee}, api.Tx{ID: 11, Fee: fee})
	}
	// ErrTx is named first: it is the answer too where the ID is there, or there is no room.
	for _, p := range []*Pool{New(), filled(t, run(11, 12, 5)...), full(t)} {
		for _, x := range wrong {
			refuses(t, p, x, api.ErrTx)
		}
	}
}

// TestTwiceIsErrPool: one ID is there once, whatever it pays the second time.
func TestTwiceIsErrPool(t *testing.T) {
	few := filled(t, run(11, 14, 5)...)
	for _, p := range []*Pool{few, full(t)} {
		for _, id := range []int{11, 12, 13, 14} {
			for _, fee := range []int{0, 4, 5, 6, 1000} {
				refuses(t, p, api.Tx{ID: id, Fee: fee}, api.ErrPool)
			}
		}
	}
	refuses(t, full(t), api.Tx{ID: 26, Fee: 1000}, api.ErrPool)
}

// TestRoom: up to 16 any place is one; from then on one that is not ahead of the last has none.
func TestRoom(t *testing.T) {
	p := filled(t, run(11, 25, 5)...)
	adds(t, p, api.Tx{ID: 30, Fee: 1})
	lists(t, p, append(run(11, 25, 5), api.Tx{ID: 30, Fee: 1})...)
	for _, x := range []api.Tx{{ID: 31, Fee: 1}, {ID: 1000000, Fee: 1}, {ID: 29}, {ID: 1}, {ID: 31}} {
		refuses(t, p, x, api.ErrPool)
	}
	adds(t, p, api.Tx{ID: 29, Fee: 1})
	lists(t, p, append(run(11, 25, 5), api.Tx{ID: 29, Fee: 1})...)
	refuses(t, p, api.Tx{ID: 30, Fee: 1}, api.ErrPool)
	adds(t, p, api.Tx{ID: 30, Fee: 2})
	lists(t, p, append(run(11, 25, 5), api.Tx{ID: 30, Fee: 2})...)
}

// TestLastIsGone: whatever its place, the one that comes to 16 pushes out the last one, and none but it.
func TestLastIsGone(t *testing.T) {
	p := full(t)
	adds(t, p, api.Tx{ID: 1, Fee: 5})
	lists(t, p, append(run(1, 1, 5), run(11, 25, 5)...)...)
	adds(t, p, api.Tx{ID: 40, Fee: 6})
	lists(t, p, slices.Concat(run(40, 40, 6), run(1, 1, 5), run(11, 24, 5))...)
	adds(t, p, api.Tx{ID: 10, Fee: 5})
	lists(t, p, slices.Concat(run(40, 40, 6), run(1, 1, 5), run(10, 23, 5))...)
	// Those that are gone can come again, if they are ahead by now.
	refuses(t, p, api.Tx{ID: 26, Fee: 5}, api.ErrPool)
	adds(t, p, api.Tx{ID: 26, Fee: 1000})
	lists(t, p, slices.Concat(run(26, 26, 1000), run(40, 40, 6), run(1, 1, 5), run(10, 22, 5))...)
	if len(p.Pick(math.MaxInt)) != 16 {
		t.Error("Pick answers", p.Pick(math.MaxInt))
	}
}

// TestLastIsGoneForGood: what was pushed out doesn't come again when there is room.
func TestLastIsGoneForGood(t *testing.T) {
	p := full(t)
	adds(t, p, api.Tx{ID: 1, Fee: 9})
	p.Drop(1)
	lists(t, p, run(11, 25, 5)...)
	p.Drop(11, 12)
	lists(t, p, run(13, 25, 5)...)
	adds(t, p, api.Tx{ID: 26, Fee: 5})
	lists(t, p, run(13, 26, 5)...)
}

func TestDrop(t *testing.T) {
	all := run(11, 26, 5)
	for _, c := range []struct {
		name string
		ids  []int
		want []api.Tx
	}{
		{"nothing", nil, all},
		{"an empty list", []int{}, all},
		{"the first", []int{11}, all[1:]},
		{"the last", []int{26}, all[:15]},
		{"one in the midst", []int{18}, append(run(11, 17, 5), run(19, 26, 5)...)},
		{"several, not in order", []int{26, 12, 11, 25}, run(13, 24, 5)},
		{"neighbours", []int{14, 15, 16}, append(run(11, 13, 5), run(17, 26, 5)...)},
		{"one twice", []int{12, 11, 12, 11}, run(13, 26, 5)},
		{"those that aren't there", []int{10, 27, 0, -11, 1<<32 + 11, math.MinInt, math.MaxInt}, all},
		{"both kinds", []int{99, 11, -1, 26, 99}, run(12, 25, 5)},
		{"a fee, which is no ID", []int{5}, all},
	} {
		p := full(t)
		p.Drop(c.ids...)
		if got := p.List(); !slices.Equal(got, c.want) {
			t.Errorf("%s: %v, not %v", c.name, got, c.want)
		}
	}
}

func TestDropOfAll(t *testing.T) {
	p := full(t)
	var ids []int
	for id := 100; id > 0; id-- {
		ids = append(ids, id)
	}
	p.Drop(ids...)
	lists(t, p)
	p.Drop(ids...)
	lists(t, p)
	// There is room again, also for those that were there, and that pay less.
	adds(t, p, api.Tx{ID: 26})
	adds(t, p, api.Tx{ID: 11, Fee: 1})
	lists(t, p, api.Tx{ID: 11, Fee: 1}, api.Tx{ID: 26})
}

func TestDropMakesRoom(t *testing.T) {
	p := full(t)
	p.Drop(17)
	adds(t, p, api.Tx{ID: 9})
	refuses(t, p, api.Tx{ID: 10}, api.ErrPool)
	adds(t, p, api.Tx{ID: 8})
	lists(t, p, slices.Concat(run(11, 16, 5), run(18, 26, 5), run(8, 8, 0))...)
}
