package mempool

import (
	"slices"
	"testing"

	"neaptide/api"
)

// scribble writes over all of a list's memory, spare room included.
func scribble(l []api.Tx) {
	l = l[:cap(l)]
	for i := range l {
		l[i] = api.Tx{ID: 77, Fee: 77}
	}
}

// TestAnswersAreNewMemory: no answer has memory in common with the pool, or with another answer.
func TestAnswersAreNewMemory(t *testing.T) {
	dropped := full(t)
	dropped.Drop(11, 26)
	empty := full(t)
	for id := range 30 {
		empty.Drop(id)
	}
	for name, p := range map[string]*Pool{"empty": New(), "one": filled(t, run(1, 1, 1)...), "few": filled(t, run(1, 5, 2)...), "full": full(t), "dropped": dropped, "empty again": empty} {
		ask := []func() []api.Tx{p.List, func() []api.Tx { return p.Pick(99) }, func() []api.Tx { return p.Pick(2) }, func() []api.Tx { return p.Pick(3, 12, 1) }, func() []api.Tx { return p.Pick(0) }}
		for i, f := range ask {
			for j, g := range ask {
				one, two := f(), g()
				want := slices.Clone(two)
				scribble(one)
				if again := g(); !slices.Equal(two, want) || !slices.Equal(again, want) {
					t.Errorf("%s: call %d hangs on what call %d answered: %v, %v, not %v", name, j, i, two, again, want)
				}
			}
		}
		// What is written behind an answer isn't there for what comes later.
		_ = append(p.List(), api.Tx{ID: 77, Fee: 77})
		if slices.Contains(p.List(), api.Tx{ID: 77, Fee: 77}) {
			t.Errorf("%s: it has what was written behind an answer", name)
		}
	}
}

// TestAnswersStay: what a pool does later changes no answer.
func TestAnswersStay(t *testing.T) {
	p := full(t)
	all, some := p.List(), p.Pick(9, 12)
	wantAll, wantSome := slices.Clone(all), slices.Clone(some)
	adds(t, p, api.Tx{ID: 1, Fee: 9})
	p.Drop(13, 14)
	adds(t, p, api.Tx{ID: 2, Fee: 9})
	if !slices.Equal(all, wantAll) || !slices.Equal(some, wantSome) {
		t.Error("an answer is changed:", all, some)
	}
}

// TestListsOfIDsAreNotChanged: what is handed in is as it was, spare room included, and isn't kept.
func TestListsOfIDsAreNotChanged(t *testing.T) {
	p := full(t)
	whole := []int{26, 11, 26, 99, 12, 13, 14}
	before := slices.Clone(whole)
	p.Drop(whole[:3]...)
	p.Pick(3, whole[:5]...)
	if !slices.Equal(whole, before) {
		t.Error("what was handed in is changed:", whole)
	}
	clear(whole)
	lists(t, p, run(12, 25, 5)...)
	picks(t, p, 1, nil, api.Tx{ID: 12, Fee: 5})
}
