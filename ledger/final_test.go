package ledger

import (
	"slices"
	"testing"

	"neaptide/chain"
)

// forked answers a chain with two ways from slot 2 on, and with a block of slot 9 that waits for one of slot 8; ID 3 comes on both ways, 1 twice on one.
//
//	1 (1 2)  2 (3)  3 (4 1)  5 (8): the tip
//	                4 (5 3)
//	6 (7 2), of its own
func forked(t *testing.T, deep int) *chain.Chain {
	t.Helper()
	c := at(deep)
	takes(t, c, on(0, 1, 1, 2), on(n(1), 2, 3), on(n(2), 3, 4, 1), on(n(2), 4, 5, 3), on(n(3), 5, 8), on(0, 6, 7, 2), on(n(8), 9, 9))
	return c
}

func TestSettled(t *testing.T) {
	c := forked(t, 0)
	for _, x := range []struct {
		what      string
		decisions []int
		want      int
	}{
		{"none", nil, 0},
		{"each", []int{n(1), n(2), n(3), n(4), n(5), n(6)}, 6},
		{"in any order", []int{n(6), n(4), n(1), n(5)}, 4},
		{"one twice", []int{n(4), n(4), n(1), n(4)}, 4},
		{"no block", []int{0}, 1},
		{"no block, again and again", []int{0, 0, n(2), 0}, 4},
		{"one that nobody knows", []int{n(7)}, 0},
		{"one that is waited for", []int{n(8)}, 0},
		{"one that waits", []int{n(9)}, 0},
		{"one that isn't known ahead", []int{n(7), n(1), 0}, 0},
		{"one that isn't known in the midst", []int{n(1), 0, n(9), n(2), n(3)}, 2},
		{"one that isn't known last", []int{0, n(1), n(2), n(8)}, 3},
		{"another miner", []int{n(1), of(1, 1), n(2)}, 1},
		{"another variant", []int{n(1), n(2), n(1) + 1, n(3)}, 2},
	} {
		if got := Settled(c, x.decisions); got != x.want {
			t.Errorf("%s: Settled of %v: %d, not %d", x.what, x.decisions, got, x.want)
		}
	}
	for _, name := range far {
		if got := Settled(c, []int{0, n(3), name, n(1), 0}); got != 2 {
			t.Errorf("Settled with %d at 2: %d", name, got)
		}
	}
}

// TestFinal: nothing is confirmed, as the chain isn't so high: Avail is Final alone.
func TestFinal(t *testing.T) {
	c := forked(t, 10)
	for _, x := range []struct {
		what      string
		decisions []int
		settled   int
		want      []int
	}{
		{"none", nil, 0, nil},
		{"no block", []int{0, 0}, 2, nil},
		{"the first block", []int{n(1)}, 1, []int{1, 2}},
		{"all on the way to a block", []int{n(5)}, 1, []int{1, 2, 3, 4, 8}},
		{"one that comes twice on a way", []int{n(3)}, 1, []int{1, 2, 3, 4}},
		{"one block behind the other", []int{n(1), n(2), n(3)}, 3, []int{1, 2, 3, 4}},
		{"what is lower has nothing new", []int{n(3), n(1), n(2)}, 3, []int{1, 2, 3, 4}},
		{"one twice", []int{n(2), n(2), n(2)}, 3, []int{1, 2, 3}},
		{"no block between", []int{0, n(1), 0, 0, n(4), 0}, 6, []int{1, 2, 3, 5}},
		{"two ways", []int{n(3), n(4)}, 2, []int{1, 2, 3, 4, 5}},
		{"two ways, the other first", []int{n(4), n(3)}, 2, []int{1, 2, 3, 5, 4}},
		{"of its own, and then the first", []int{n(6), n(1)}, 2, []int{7, 2, 1}},
		{"the first, and then of its own", []int{n(1), n(6)}, 2, []int{1, 2, 7}},
		{"one that nobody knows ends it", []int{n(1), n(7), n(5)}, 1, []int{1, 2}},
		{"one that waits ends it", []int{0, n(2), n(9), n(5)}, 2, []int{1, 2, 3}},
		{"one that isn't known ahead of all", []int{n(8), n(5)}, 0, nil},
	} {
		tells(t, x.what, c, x.decisions, look{x.settled, x.want, x.want})
	}
	for _, name := range far {
		tells(t, "a far one", c, []int{n(1), name, n(5)}, look{1, []int{1, 2}, []int{1, 2}})
	}
}

// TestFinalIsByID: two transactions of one ID are one, whatever they pay.
func TestFinalIsByID(t *testing.T) {
	c := at(0)
	first, second := on(0, 1, 5, 6), on(n(1), 2, 6, 7, 5)
	second.Txs[0].Fee, second.Txs[2].Fee = 900, 1000
	takes(t, c, first, second)
	tells(t, "other fees", c, []int{n(2)}, look{1, []int{5, 6, 7}, []int{5, 6, 7}})
}

// TestAvail: what is confirmed comes behind Final, each number once.
func TestAvail(t *testing.T) {
	for _, x := range []struct {
		what         string
		deep         int
		decisions    []int
		final, avail []int
	}{
		{"nothing decided", 0, nil, nil, []int{1, 2, 3, 4, 8}},
		{"nothing decided, 1 deep", 1, nil, nil, []int{1, 2, 3, 4}},
		{"nothing decided, 3 deep", 3, nil, nil, []int{1, 2}},
		{"nothing decided, nothing confirmed", 4, nil, nil, nil},
		{"decided for no block", 2, []int{0}, nil, []int{1, 2, 3}},
		{"decided for what isn't known", 2, []int{n(9)}, nil, []int{1, 2, 3}},
		{"decided what is confirmed", 0, []int{n(5)}, []int{1, 2, 3, 4, 8}, []int{1, 2, 3, 4, 8}},
		{"decided what is below", 0, []int{n(2)}, []int{1, 2, 3}, []int{1, 2, 3, 4, 8}},
		{"decided what is above", 2, []int{n(5)}, []int{1, 2, 3, 4, 8}, []int{1, 2, 3, 4, 8}},
		{"decided what is beside", 0, []int{n(4)}, []int{1, 2, 3, 5}, []int{1, 2, 3, 5, 4, 8}},
		{"decided what is beside, 1 deep", 1, []int{n(4)}, []int{1, 2, 3, 5}, []int{1, 2, 3, 5, 4}},
		{"decided what is beside, 2 deep", 2, []int{n(4)}, []int{1, 2, 3, 5}, []int{1, 2, 3, 5}},
		{"decided what is of its own", 0, []int{n(6)}, []int{7, 2}, []int{7, 2, 1, 3, 4, 8}},
		{"decided what is of its own, nothing confirmed", 4, []int{n(6)}, []int{7, 2}, []int{7, 2}},
		{"decided this and that", 0, []int{n(6), 0, n(4)}, []int{7, 2, 1, 3, 5}, []int{7, 2, 1, 3, 5, 4, 8}},
	} {
		settled := len(x.decisions)
		if slices.Contains(x.decisions, n(9)) {
			settled = 0
		}
		tells(t, x.what, forked(t, x.deep), x.decisions, look{settled, x.final, x.avail})
	}
}

// TestAvailOfTheTip: what is confirmed hangs on the tip of now; what was decided stays ahead of it.
func TestAvailOfTheTip(t *testing.T) {
	c := at(1)
	takes(t, c, on(0, 2, 1), on(n(2), 4, 2))
	decisions := []int{n(2)}
	tells(t, "one way", c, decisions, look{1, []int{1}, []int{1}})
	takes(t, c, on(0, 1, 3, 1), on(n(1), 3, 4))
	tells(t, "another one, as high, with a lesser name", c, decisions, look{1, []int{1}, []int{1, 3}})
	takes(t, c, on(n(4), 5, 5))
	tells(t, "the first one is higher again", c, decisions, look{1, []int{1}, []int{1, 2}})
	takes(t, c, on(n(6), 7, 7))
	tells(t, "what waits counts for nothing", c, decisions, look{1, []int{1}, []int{1, 2}})
	takes(t, c, on(n(3), 6, 6))
	tells(t, "what came with it does", c, decisions, look{1, []int{1}, []int{1, 3, 4, 6}})
}

// TestFull: a chain of as many blocks as there can be, each of them decided, and all of them very often.
func TestFull(t *testing.T) {
	c := at(10)
	var decisions, final []int
	for i := range 400 {
		b := on(n(i), i+1, 3*i+1, 3*i+2, 3*i+3)
		final = append(final, 3*i+1, 3*i+2, 3*i+3)
		// The tree asks for no draw and no slot.
		if _, ok := c.Tree().Add(b); !ok {
			t.Fatal("block", i, "isn't taken")
		}
		decisions = append(decisions, n(i+1))
	}
	tells(t, "none decided", c, nil, look{0, nil, final[:1170]})
	tells(t, "all, one behind the other", c, decisions, look{400, final, final})
	slices.Reverse(decisions)
	tells(t, "all, from above", c, decisions, look{400, final, final})
	often := slices.Repeat(append(decisions, 0), 2000)
	tells(t, "all, again and again", c, often, look{401 * 2000, final, final})
	tells(t, "one that isn't known, far behind", c, append(often, n(401), 0), look{401 * 2000, final, final})
}
