package node

import (
	"math"
	"slices"
	"testing"

	"neaptide/api"
	"neaptide/disk"
)

// TestSelfIsNotKept: its stakes and draws may be written over behind New, and nothing is written into them.
func TestSelfIsNotKept(t *testing.T) {
	stakes, draws := []int{1, 1, 1, 1, 7, 7}, []int{4, 4, 4, 99}
	s := api.Self{Me: 2, Stakes: stakes[:4], Draws: draws[:3], Base: 9, Most: 9}
	n := New(s, disk.New(1000))
	n.Tick(1)
	if !slices.Equal(stakes, []int{1, 1, 1, 1, 7, 7}) || !slices.Equal(draws, []int{4, 4, 4, 99}) {
		t.Error("what was handed in is changed:", stakes, draws)
	}
	for i := range stakes {
		stakes[i] = 1
	}
	stakes[0] = 1000
	clear(draws)
	sends(t, "the draws of then", n.Tick(2), all(blockOf(2, on(of(1, 2), 2, 2))))
	hand(t, n, decidedOf(0, 0, 0), decidedOf(4, 0, 0))
	tells(t, "the stakes of then", n, look{slot: 2, tip: of(2, 2), confirmed: of(2, 2)})
	hand(t, n, decidedOf(1, 0, 0))
	tells(t, "the stakes of then", n, look{slot: 2, tip: of(2, 2), confirmed: of(2, 2), decisions: []int{0}})
}

// TestDataIsNotKept: bytes may be written over behind Handle, and nothing is written into them.
func TestDataIsNotKept(t *testing.T) {
	n := New(who(1, 4), disk.New(1000))
	n.Clock(9)
	b := on(0, 1, 0, 5, 6)
	for _, m := range []api.Msg{blockOf(0, on(of(1, 0), 2, 0, 8)), blockOf(0, b), txOf(0, 7, 1), decidedOf(0, 0, of(1, 0)), decidedOf(2, 0, of(1, 0)), askOf(2, of(1, 0))} {
		data := append(dataOf(t, m), 1, 2, 3)
		before := slices.Clone(data)
		n.Handle(data[:len(data)-3])
		if !slices.Equal(data, before) {
			t.Error("what was handed in is changed:", data)
		}
		clear(data)
	}
	tells(t, "written over", n, look{slot: 9, tip: of(2, 0), confirmed: of(2, 0), decisions: []int{of(1, 0)}, final: []int{5, 6}, avail: []int{5, 6, 8}, pool: []api.Tx{{ID: 7, Fee: 1}}})
	sends(t, "written over", hand(t, n, askOf(3, of(1, 0))), to(3, blockOf(1, b)))
}

// scribble writes over all of a list's memory, spare room included.
func scribble[T any](l []T, with T) {
	l = l[:cap(l)]
	for i := range l {
		l[i] = with
	}
}

// TestAnswersAreNew: no answer has memory in common with another one, with another list of it, or with what is kept.
func TestAnswersAreNew(t *testing.T) {
	s := miner(0, 4)
	d, two := disk.New(1000), disk.New(1000)
	n, twin := New(s, d), New(s, two)
	deeds := []func(n *Node) []api.Packet{
		func(n *Node) []api.Packet { l, _ := n.Submit(api.Tx{ID: 5, Fee: 2}); return l },
		func(n *Node) []api.Packet { l, _ := n.Submit(api.Tx{ID: 6, Fee: 1}); return l },
		func(n *Node) []api.Packet { return n.Tick(1) },
		func(n *Node) []api.Packet {
			return hand(t, n, prepareOf(1, 0, 0, of(1, 0)), prepareOf(2, 0, 0, of(1, 0)))
		},
		func(n *Node) []api.Packet { l, _ := n.Submit(api.Tx{ID: 7, Fee: 1}); return l },
		func(n *Node) []api.Packet { return n.Tick(2) },
		func(n *Node) []api.Packet { return hand(t, n, askOf(3, of(1, 0)), decidedOf(3, 0, of(9, 0))) },
		func(n *Node) []api.Packet {
			return hand(t, n, commitOf(1, 0, 0, of(1, 0)), commitOf(2, 0, 0, of(1, 0)))
		},
		func(n *Node) []api.Packet { return n.Tick(3) },
		func(n *Node) []api.Packet { return n.Tick(3) },
	}
	for i, do := range deeds {
		got, want := do(n), do(twin)
		sends(t, "the deed", got, saysOf(want)...)
		for j, p := range got {
			scribble(p.Data, 77)
			sends(t, "the others of one answer", got[j+1:], saysOf(want[j+1:])...)
		}
		scribble(got, api.Packet{To: 77})
		one, other := lookAt(n), lookAt(n)
		for _, l := range [][]int{one.decisions, one.final, one.avail} {
			scribble(l, 77)
		}
		scribble(one.pool, api.Tx{ID: 77})
		if told := lookAt(twin); !other.same(told) || !lookAt(n).same(told) {
			t.Errorf("deed %d: told is %+v and %+v, not %+v", i, other, lookAt(n), told)
		}
		if !slices.Equal(d.Bytes(), two.Bytes()) || d.Synced() != two.Synced() {
			t.Errorf("deed %d: on the disk is %v, not %v", i, d.Bytes(), two.Bytes())
		}
	}
}

// TestAnswersStay: what happens later changes no answer.
func TestAnswersStay(t *testing.T) {
	n := New(miner(0, 1), disk.New(1000))
	n.Submit(api.Tx{ID: 5})
	n.Submit(api.Tx{ID: 6, Fee: 1})
	sent := n.Tick(1)
	says := saysOf(sent)
	n.Submit(api.Tx{ID: 7})
	before := lookAt(n)
	for slot := 2; slot < 9; slot++ {
		n.Submit(api.Tx{ID: 10 + slot, Fee: 3})
		n.Tick(slot)
	}
	sends(t, "the first tick", sent, says...)
	if want := (look{1, of(1, 0), of(1, 0), []int{of(1, 0)}, []int{6, 5}, []int{6, 5}, []api.Tx{{ID: 7}}}); !before.same(want) {
		t.Errorf("told was %+v, and now %+v", want, before)
	}
}

// TestSelvesThatCantBe: of these only that the calls end.
func TestSelvesThatCantBe(t *testing.T) {
	far := []int{math.MinInt, -1, 0, 1, 7, 11, 101, 1001, math.MaxInt}
	ones := slices.Repeat([]int{1}, 3000)
	for _, stakes := range [][]int{nil, {0}, {-1, 1, 5}, {1, 1, 1, 1}, {math.MaxInt, math.MaxInt, math.MinInt}, ones[:8], ones} {
		for _, draws := range [][]int{nil, {-1, 128, math.MinInt, math.MaxInt}, slices.Repeat([]int{127}, 5000)} {
			for _, x := range far {
				for _, s := range []api.Self{{Me: x, Base: 3, Most: 9}, {Me: 1, Deep: x, Base: 3, Most: 9}, {Base: x, Most: 9}, {Base: 3, Most: x}, {Me: x, Deep: x, Base: x, Most: x}} {
					s.Stakes, s.Draws = stakes, draws
					goThrough(t, s)
				}
			}
		}
	}
}

// goThrough calls whatever there is.
func goThrough(t *testing.T, s api.Self) {
	t.Helper()
	d := recsOf(t, rec6(0, -1), rec4(1, 1<<30, -1), rec5(1, 3, 1<<30), rec5(1, 2, of(1, 1)), recOf(t, on(0, 4095, 6)), api.Rec{Kind: -1, Index: -1, View: -1, Value: -1})
	for range 2 {
		n := New(s, d)
		for _, slot := range []int{math.MinInt, 0, 1, 2, 4999, math.MaxInt} {
			n.Clock(slot - 1)
			n.Tick(slot)
			hand(t, n, txOf(0, 1, 1), blockOf(1, on(of(1, 1), 2, 0)), blockOf(2, on(0, 1, 1)), askOf(3, of(1, 1)), proposeOf(0, 1, 2, 0, 1), prepareOf(1, 1, 3, -1), commitOf(6, 1, 3, 0), decidedOf(5, 1, of(3, 1)), decidedOf(2, 0, 0))
			n.Submit(api.Tx{ID: slot})
			lookAt(n)
		}
		d.Limit(0)
	}
}
