package tree

import (
	"slices"
	"testing"

	"neaptide/api"
	"neaptide/block"
)

// scribble writes over all of a list's memory, spare room included.
func scribble(l []int) {
	l = l[:cap(l)]
	for i := range l {
		l[i] = -99
	}
}

// TestNothingIsKept: what is handed in may be written over behind the call, and isn't changed by it.
func TestNothingIsKept(t *testing.T) {
	x := New()
	whole := []api.Tx{{ID: 1, Fee: 5}, {ID: 2, Fee: 4}, {ID: 3, Fee: 3}}
	before := slices.Clone(whole)
	known := api.Block{Slot: 1, Txs: whole[:2]}
	waits := api.Block{Slot: 3, Parent: n(2), Txs: whole[1:2]}
	refused := api.Block{Slot: 1, Txs: whole[2:]}
	x.Add(known)
	x.Add(waits)
	x.Add(refused)
	if !slices.Equal(whole, before) {
		t.Error("what was handed in is changed:", whole)
	}
	clear(whole)
	adds(t, x, on(n(1), 2), n(2), n(3))
	for name, txs := range map[int][]api.Tx{n(1): before[:2], n(2): nil, n(3): before[1:2]} {
		if b, _ := x.Get(name); !slices.Equal(b.Txs, txs) {
			t.Errorf("%d hangs on what was handed in: %v", name, b)
		}
	}
}

func TestGetIsNewMemory(t *testing.T) {
	x := New()
	want := api.Block{Slot: 1, Txs: []api.Tx{{ID: 1, Fee: 5}, {ID: 2}}}
	x.Add(want)
	one, _ := x.Get(n(1))
	two, _ := x.Get(n(1))
	clear(one.Txs[:cap(one.Txs)])
	_ = append(one.Txs, api.Tx{ID: 9})
	three, _ := x.Get(n(1))
	if !block.Same(two, want) || !block.Same(three, want) {
		t.Error("an answer hangs on another one:", two, three)
	}
}

func TestListsAreNewMemory(t *testing.T) {
	x := grown(t)
	ask := []func() []int{x.Names, x.Waiting, x.Missing, func() []int { return x.Path(n(4)) }, func() []int { return x.Path(n(5)) }, func() []int { return x.Path(n(3)) }}
	before := make([][]int, len(ask))
	for i, f := range ask {
		before[i] = slices.Clone(f())
	}
	for i, f := range ask {
		kept := f()
		scribble(f())
		_ = append(f(), 7)
		if !slices.Equal(kept, before[i]) {
			t.Errorf("list %d hangs on another one: %v", i, kept)
		}
		for j, g := range ask {
			if l := g(); !slices.Equal(l, before[j]) {
				t.Errorf("behind list %d, list %d is %v, not %v", i, j, l, before[j])
			}
		}
	}
	known, _ := x.Add(on(0, 11))
	scribble(known)
	is(t, x, look{names: []int{n(1), n(2), n(3), n(4), n(5), n(6), n(11), n(12), n(13)}, waiting: []int{n(10)}, missing: []int{n(9)}, tip: n(4)})
}

// TestKeptAnswers: an answer tells what was, whatever is added behind it.
func TestKeptAnswers(t *testing.T) {
	x := grown(t)
	names, waiting, missing, path := x.Names(), x.Waiting(), x.Missing(), x.Path(n(5))
	known, _ := x.Add(on(n(5), 11))
	before := [][]int{slices.Clone(names), slices.Clone(waiting), slices.Clone(missing), slices.Clone(path), slices.Clone(known)}
	for slot := 50; slot < 150; slot++ {
		x.Add(on(n(49), slot))
		x.Add(on(n(13), slot+200))
	}
	for i, l := range [][]int{names, waiting, missing, path, known} {
		if !slices.Equal(l, before[i]) {
			t.Errorf("list %d was %v, and is %v", i, before[i], l)
		}
	}
}

// TestTwoTrees: nothing of one is in another.
func TestTwoTrees(t *testing.T) {
	x, y := New(), New()
	adds(t, x, on(0, 1), n(1))
	adds(t, x, on(n(5), 6))
	is(t, y, look{})
	adds(t, y, on(n(1), 2))
	is(t, y, look{waiting: []int{n(2)}, missing: []int{n(1)}})
	is(t, x, look{names: []int{n(1)}, waiting: []int{n(6)}, missing: []int{n(5)}, tip: n(1)})
}

// TestAskingChangesNothing: whatever is asked, and however often, the answers are the same.
func TestAskingChangesNothing(t *testing.T) {
	x := grown(t)
	want := lookAt(x)
	for range 20 {
		for _, name := range append([]int{0, n(1), n(2), n(3), n(4), n(5), n(6)}, strangers...) {
			x.Has(name)
			x.Get(name)
			x.Height(name)
			x.Path(name)
			x.Back(name, 1)
			x.Common(name, n(5))
		}
		is(t, x, want)
	}
}
