package cluster

import (
	"bytes"
	"testing"

	"neaptide/api"
	"neaptide/tag"
	"neaptide/wire"
)

// all answers, of a node, messages of all kinds.
func all(from int) []api.Msg {
	return []api.Msg{
		txOf(from, 5, 2),
		{Kind: api.KindAsk, From: from, Value: of(1, 0)},
		{Kind: api.KindPropose, From: from, Index: 3, View: 2, Value: of(1, 3), Prepared: 1},
		voteOf(api.KindPrepare, from, 3, 2, -1),
		voteOf(api.KindCommit, from, 3, 2, of(1, 0)),
		{Kind: api.KindDecided, From: from, Index: 3, Value: of(1, 0)},
		blockOf(from, on(of(1, 0), 2, from, 7)),
	}
}

// TestInject: what bad ones say, to each honest one; it is from the one that says it, behind all others.
func TestInject(t *testing.T) {
	c := begin(t, so(7, 3, 5))
	does(t, "something is there", c, submit(0, 8, 1))
	var want []saying
	for _, to := range []int{1, 2, 4, 6} {
		want = append(want, saying{0, to, txOf(0, 8, 1)})
	}
	for _, from := range []int{5, 3} {
		for _, m := range all(from) {
			for _, to := range []int{2, 0, 6, 2} {
				does(t, "a bad one's", c, inject(to, dataOf(t, m)))
				want = append(want, saying{from, to, m})
			}
			for _, to := range []int{3, 5} {
				doesNot(t, "to a bad one", c, inject(to, dataOf(t, m)))
			}
		}
	}
	isOnWay(t, "what they say", c, want...)
}

// TestInjectForged: nobody is spoken for that is honest, or no node.
func TestInjectForged(t *testing.T) {
	c := begin(t, so(4, 3))
	for _, from := range []int{0, 1, 2, 4, 5, 6} {
		for _, m := range all(from) {
			doesNot(t, "not a bad one's", c, inject(0, dataOf(t, m)), inject(1, dataOf(t, m)))
			_, body, _ := wire.ReadNum(dataOf(t, m))
			doesNot(t, "under a bad one's mark", c, inject(0, append(wire.Num(tag.Of(tag.Key(3), body)), body...)))
		}
	}
	for _, m := range all(3) {
		data := dataOf(t, m)
		for i := range data {
			changed := bytes.Clone(data)
			changed[i] ^= 1
			doesNot(t, "it can't be read", c, inject(0, data[:i]), inject(0, changed))
		}
		doesNot(t, "it can't be read", c, inject(0, append(bytes.Clone(data), 0)))
	}
	doesNot(t, "it can't be read", c, inject(0, nil), inject(0, []byte{}), inject(0, make([]byte, 5000)))
	doesNot(t, "a block of an honest one", c, inject(0, dataOf(t, blockOf(3, on(0, 1, 0)))), inject(2, dataOf(t, blockOf(3, on(0, 1, 4)))))
}

// TestInjectBlocks: under one name there is one block alone, whoever hands it on to whom.
func TestInjectBlocks(t *testing.T) {
	c := begin(t, so(4, 3, 2))
	own, other := on(0, 4, 3, 7), on(0, 4, 3, 8)
	does(t, "the first one of that name", c, inject(0, dataOf(t, blockOf(3, own))))
	doesNot(t, "another one of that name", c, inject(0, dataOf(t, blockOf(3, other))), inject(1, dataOf(t, blockOf(3, other))), inject(1, dataOf(t, blockOf(2, other))))
	does(t, "the same one", c, inject(1, dataOf(t, blockOf(3, own))), inject(1, dataOf(t, blockOf(2, own))))
	other.Variant = 1
	does(t, "of another name", c, inject(1, dataOf(t, blockOf(3, other))))
	honest := on(0, 1, 0)
	doesNot(t, "an honest one's", c, inject(1, dataOf(t, blockOf(3, honest))))
	does(t, "it makes that", c, tick(), inject(1, dataOf(t, blockOf(3, honest))), inject(1, dataOf(t, blockOf(0, honest))))
	doesNot(t, "another one of that name", c, inject(1, dataOf(t, blockOf(3, on(0, 1, 0, 5)))))
}

// TestInjectWhom: to whoever is honest, asleep or not, running or not, on whatever side.
func TestInjectWhom(t *testing.T) {
	c := begin(t, so(4, 3))
	does(t, "none is able", c, sleep(0), crash(1, 0), room(2, 0), cut(8))
	for range 3 {
		does(t, "till it is down", c, tick())
	}
	if c.Up(2) {
		t.Fatal("it isn't down")
	}
	empty(t, c)
	data := dataOf(t, txOf(3, 5, 5))
	does(t, "to them all", c, inject(0, data), inject(1, data), inject(2, data))
	isOnWay(t, "to them all", c, saying{3, 0, txOf(3, 5, 5)}, saying{3, 1, txOf(3, 5, 5)}, saying{3, 2, txOf(3, 5, 5)})
	doesNot(t, "none can have it", c, deliver(0), deliver(1), deliver(2))
	does(t, "awake, but on the other side", c, wake(0))
	doesNot(t, "what it says is on its own side", c, deliver(0))
	does(t, "on its side", c, cut(1|8), deliver(0))
}

// TestInjectHonest: what an honest one said is said again; it is from that one then.
func TestInjectHonest(t *testing.T) {
	c := begin(t, so(4, 3))
	does(t, "it says something", c, submit(1, 5, 1))
	empty(t, c)
	data := dataOf(t, txOf(1, 5, 1))
	does(t, "said again, also to itself", c, inject(0, data), inject(1, data), cut(2))
	isOnWay(t, "said again", c, saying{1, 0, txOf(1, 5, 1)}, saying{1, 1, txOf(1, 5, 1)})
	doesNot(t, "it is on the other side", c, deliver(0))
	does(t, "to itself", c, deliver(1))
	does(t, "on one side", c, cut(0), deliver(0))
}

// TestInjectFull: without room nothing is changed: no name is taken by what would have passed.
func TestInjectFull(t *testing.T) {
	c := begin(t, so(4, 3))
	does(t, "one", c, submit(1, 5, 1))
	fill(t, c)
	first, second := dataOf(t, blockOf(3, on(0, 4, 3, 7))), dataOf(t, blockOf(3, on(0, 4, 3, 8)))
	doesNot(t, "there is no room", c, inject(0, first), inject(0, dataOf(t, txOf(3, 5, 5))), inject(0, dataOf(t, txOf(1, 5, 1))))
	does(t, "there is room for one", c, drop(0), inject(0, second))
	doesNot(t, "there is no room", c, inject(0, second))
	does(t, "there is room for one", c, drop(0))
	doesNot(t, "the name is taken", c, inject(0, first))
	does(t, "by that one", c, inject(1, second))
}

// TestInjectNobody: to nobody nothing is said, and no name is taken by that.
func TestInjectNobody(t *testing.T) {
	c := begin(t, so(4, 3))
	first, second := dataOf(t, blockOf(3, on(0, 4, 3, 7))), dataOf(t, blockOf(3, on(0, 4, 3, 8)))
	for _, i := range nobody {
		doesNot(t, "to nobody", c, inject(i, first))
	}
	does(t, "another one of that name", c, inject(0, second))
	doesNot(t, "the name is taken", c, inject(0, first))
}

// TestInjectNoneBad: if all are honest, only what was said is said again.
func TestInjectNoneBad(t *testing.T) {
	c := begin(t, so(4))
	for from := range 7 {
		for _, m := range all(from) {
			doesNot(t, "not said", c, inject(0, dataOf(t, m)))
		}
	}
	does(t, "said", c, submit(2, 5, 2), inject(0, dataOf(t, txOf(2, 5, 2))))
}
