package msg

import (
	"math"
	"slices"
	"strings"
	"testing"

	"neaptide/api"
)

// extremes are numbers far beyond any bound, and such as would be within one if their high bits were lost.
var extremes = []int{
	math.MinInt, math.MinInt + 1, -1 << 62, -1<<32 + 1, -1 << 32, -1<<32 - 1, -1 << 31, -1 << 16,
	1 << 31, 1<<31 + 1, 1 << 32, 1<<32 + 1, 1<<32 + 2, 1<<32 - 1, 1 << 62, 1<<62 + 1, math.MaxInt - 1, math.MaxInt,
}

// right and wrong numbers, the least and the greatest among them.
var (
	rightFroms  = []int{0, 1, 2, 3, 4, 5, 6}
	rightCounts = []int{0, 1, 2, 126, 127, 128, 255, 256, 500, 998, 999, 1000}
	rightNames  = []int{0, name(1, 0, 0), name(1, 2, 3), name(1, 6, 255), name(2, 0, 255), name(255, 3, 127), name(256, 6, 0), name(4095, 0, 0), name(4095, 6, 255)}
	wrongKinds  = append([]int{-2, -1, 7, 8, 9, 255, 256, 257, 260}, extremes...)
	wrongFroms  = append([]int{-7, -2, -1, 7, 8, 255, 256, 257, 65536}, extremes...)
	wrongCounts = append([]int{-1000, -2, -1, 1001, 1002, 1023, 1024, 2000, 65536, 65537}, extremes...)
	notNames    = append([]int{-65536, -65537, -66051, -name(4095, 6, 255), -3, -2, 1, 2, 255, 256, 515, 6*256 + 255, 65535, name(1, 7, 0), name(1, 7, 255), name(1, 255, 255), name(4095, 7, 0), name(4096, 0, 0), name(4096, 2, 1), name(8191, 6, 255), 1<<32 + name(1, 0, 0), 1<<62 + name(1, 0, 0), -1<<32 + name(1, 0, 0), math.MinInt + name(1, 0, 0)}, extremes...)
	rightTxs    = []api.Tx{{ID: 1}, {ID: 1, Fee: 1000}, {ID: 5, Fee: 2}, {ID: 127, Fee: 127}, {ID: 128, Fee: 128}, {ID: 1000000}, {ID: 1000000, Fee: 1000}}
	wrongTxs    = []api.Tx{{}, {ID: -1}, {Fee: 1}, {ID: -1, Fee: -1}, {ID: 1, Fee: -1}, {ID: 1, Fee: 1001}, {ID: 1000001}, {ID: 1000001, Fee: 1001}, {ID: math.MinInt}, {ID: math.MaxInt, Fee: 3}, {ID: 1, Fee: math.MinInt}, {ID: 1, Fee: math.MaxInt}, {ID: 1<<32 + 1}, {ID: 1, Fee: 1 << 32}}
	someBlocks  = []api.Block{
		{Slot: 1}, {Slot: 1, Miner: 6, Variant: 255}, {Slot: 2, Miner: 3, Parent: 65536}, {Slot: 1, Txs: []api.Tx{}}, {Slot: 4095, Parent: name(4094, 6, 255), Txs: []api.Tx{{ID: 1}}},
		{Slot: 300, Miner: 1, Variant: 2, Parent: name(299, 0, 0), Txs: []api.Tx{{ID: 3, Fee: 2}, {ID: 1, Fee: 1000}, {ID: 1000000}}},
	}
	wrongBlocks = []api.Block{
		{}, {Slot: -1}, {Slot: 4096}, {Slot: 1, Miner: -1}, {Slot: 1, Miner: 7}, {Slot: 1, Variant: -1}, {Slot: 1, Variant: 256}, {Slot: 1, Parent: -1}, {Slot: 1, Parent: 1}, {Slot: 1, Parent: 65536}, {Slot: 2, Parent: name(1, 7, 0)}, {Slot: 2, Parent: name(2, 0, 0)},
		{Slot: 1, Txs: []api.Tx{{}}}, {Slot: 1, Txs: []api.Tx{{ID: 1}, {ID: 1, Fee: 2}}}, {Slot: 1, Txs: []api.Tx{{ID: 1}, {ID: 2}, {ID: 3}, {ID: 4}}}, {Slot: math.MaxInt, Miner: math.MinInt}, {Miner: 1}, {Variant: 1}, {Parent: 65536}, {Txs: []api.Tx{{ID: 1}}},
	}
)

// name answers the name of these numbers, put together from bytes.
func name(slot, miner, variant int) int { return slot<<16 | miner<<8 | variant }

// with answers a message of which something is another way.
func with(m api.Msg, change func(*api.Msg)) api.Msg {
	change(&m)
	return m
}

// good answers, of each kind, a message that can be, and has no zero where something else can be.
func good() [7]api.Msg {
	return [7]api.Msg{
		{Kind: 0, From: 3, Tx: api.Tx{ID: 5, Fee: 2}},
		{Kind: 1, From: 3, Block: api.Block{Slot: 2, Miner: 1, Variant: 4, Parent: 65536, Txs: []api.Tx{{ID: 7, Fee: 1}}}},
		{Kind: 2, From: 3, Value: 66051},
		{Kind: 3, From: 3, Index: 4, View: 5, Value: 66051, Prepared: 2},
		{Kind: 4, From: 3, Index: 4, View: 5, Value: 66051},
		{Kind: 5, From: 3, Index: 4, View: 5, Value: 66051},
		{Kind: 6, From: 3, Index: 4, Value: 66051},
	}
}

// partsOf tells of each kind, by the chapter's list, what it has.
var partsOf = [7]string{"tx", "block", "value", "index view value prepared", "index view value", "index view value", "index value"}

// rightOnes answers messages that can be.
func rightOnes() []api.Msg {
	var l []api.Msg
	for _, m := range good() {
		for _, n := range rightFroms {
			l = append(l, with(m, func(m *api.Msg) { m.From = n }))
		}
	}
	for _, x := range rightTxs {
		l = append(l, api.Msg{Kind: 0, Tx: x})
	}
	for _, x := range someBlocks {
		l = append(l, api.Msg{Kind: 1, From: 6, Block: x})
	}
	for _, v := range rightNames {
		l = append(l, api.Msg{Kind: 2, From: 1, Value: v})
		for _, n := range rightCounts {
			l = append(l, api.Msg{Kind: 6, From: 2, Index: n, Value: v})
			for _, view := range rightCounts {
				l = append(l, api.Msg{Kind: 3, From: 4, Index: n, View: view, Value: v, Prepared: -1}, api.Msg{Kind: 3, Index: n, View: view, Value: v, Prepared: view - 1}, api.Msg{Kind: 3, Index: n, View: view, Value: v, Prepared: view/2 - 1})
				for _, kind := range []int{4, 5} {
					l = append(l, api.Msg{Kind: kind, From: 5, Index: n, View: view, Value: v}, api.Msg{Kind: kind, Index: n, View: view, Value: -1})
				}
			}
		}
	}
	return l
}

// wrongOnes answers messages that can't be, most for one reason alone.
func wrongOnes() []api.Msg {
	l := []api.Msg{{}, {Kind: 1}, {Kind: 3}, {From: 2}, {Kind: -1, From: -1, Index: -1, View: -1, Value: -1, Prepared: -1, Tx: wrongTxs[1], Block: wrongBlocks[1]}}
	for kind, m := range good() {
		for _, n := range wrongKinds {
			l = append(l, with(m, func(m *api.Msg) { m.Kind = n }))
		}
		for _, n := range wrongFroms {
			l = append(l, with(m, func(m *api.Msg) { m.From = n }))
		}
		for _, n := range wrongCounts {
			l = append(l, with(m, func(m *api.Msg) { m.Index = n }), with(m, func(m *api.Msg) { m.View = n }))
		}
		for _, n := range notNames {
			l = append(l, with(m, func(m *api.Msg) { m.Value = n }))
		}
		l = append(l, with(m, func(m *api.Msg) { m.Prepared = -2 }))
		l = append(l, tooMuch(kind, m)...)
	}
	for _, kind := range []int{2, 3, 6} {
		l = append(l, with(good()[kind], func(m *api.Msg) { m.Value = -1 }))
	}
	for _, x := range wrongTxs {
		l = append(l, with(good()[0], func(m *api.Msg) { m.Tx = x }))
	}
	for _, x := range wrongBlocks {
		l = append(l, with(good()[1], func(m *api.Msg) { m.Block = x }))
	}
	for _, view := range rightCounts {
		for _, n := range append([]int{view, view + 1, view + 2, 1000, 1001, -2, -3}, extremes...) {
			if n >= view || n < -1 {
				l = append(l, with(good()[3], func(m *api.Msg) { m.View, m.Prepared = view, n }))
			}
		}
	}
	// One less than the least number would be the greatest.
	return append(l, with(good()[3], func(m *api.Msg) { m.View = math.MinInt }), with(good()[3], func(m *api.Msg) { m.View, m.Prepared = math.MinInt, math.MaxInt }), with(good()[3], func(m *api.Msg) { m.View, m.Prepared = -1, -2 }), with(good()[3], func(m *api.Msg) { m.View, m.Prepared = 1001, 1000 }))
}

// tooMuch answers messages of a kind that have one part more than that kind.
func tooMuch(kind int, m api.Msg) []api.Msg {
	has := func(part string) bool { return slices.Contains(strings.Fields(partsOf[kind]), part) }
	var l []api.Msg
	for _, n := range append([]int{-1, 1, 2, 1000, 65536}, extremes...) {
		if !has("index") {
			l = append(l, with(m, func(m *api.Msg) { m.Index = n }))
		}
		if !has("view") {
			l = append(l, with(m, func(m *api.Msg) { m.View = n }))
		}
		if !has("value") {
			l = append(l, with(m, func(m *api.Msg) { m.Value = n }))
		}
		if !has("prepared") {
			l = append(l, with(m, func(m *api.Msg) { m.Prepared = n }))
		}
	}
	if !has("tx") {
		for _, x := range append(slices.Clone(rightTxs), wrongTxs[1:]...) {
			l = append(l, with(m, func(m *api.Msg) { m.Tx = x }))
		}
	}
	if !has("block") {
		for _, x := range append(slices.Clone(someBlocks), wrongBlocks[1:]...) {
			l = append(l, with(m, func(m *api.Msg) { m.Block = x }))
		}
	}
	return l
}

func TestRight(t *testing.T) {
	for _, m := range rightOnes() {
		if !Right(m) {
			t.Errorf("%v isn't right", m)
		}
	}
	for _, m := range wrongOnes() {
		if Right(m) {
			t.Errorf("%v is right", m)
		}
	}
}

// TestRightNumbers: of all numbers round the bounds, just those within are right.
func TestRightNumbers(t *testing.T) {
	for n := -70000; n < 5*65536; n++ {
		isName := n == 0 || n >= 65536 && n%65536/256 < 7
		for kind, m := range good() {
			if kind < 2 {
				continue
			}
			m.Value = n
			if want := isName || n == -1 && (kind == 4 || kind == 5); Right(m) != want {
				t.Fatalf("kind %d of value %d: right isn't %t", kind, n, want)
			}
		}
	}
	for n := -1100; n < 2100; n++ {
		for kind, m := range good() {
			want := n >= 0 && n <= 1000
			if kind >= 3 {
				if m.Index = n; Right(m) != want {
					t.Fatalf("kind %d of index %d: right isn't %t", kind, n, want)
				}
				m.Index = 0
			}
			if kind >= 3 && kind <= 5 {
				if m.View = n; Right(m) != (want && (kind > 3 || n > 2)) {
					t.Fatalf("kind %d of view %d: right is %t", kind, n, Right(m))
				}
			}
		}
	}
}

// TestRightPrepared: a proposal was prepared in a view ahead of its own, or in none.
func TestRightPrepared(t *testing.T) {
	for view := -2; view < 1004; view++ {
		for prepared := -3; prepared < 1006; prepared++ {
			want := view >= 0 && view <= 1000 && prepared >= -1 && prepared < view
			if Right(api.Msg{Kind: 3, View: view, Prepared: prepared}) != want {
				t.Fatalf("view %d, prepared %d: right isn't %t", view, prepared, want)
			}
		}
	}
}
