package node

import (
	"slices"
	"testing"

	"neaptide/api"
	"neaptide/disk"
)

// TestHandleUnread: what layer 12 can't read is nothing.
func TestHandleUnread(t *testing.T) {
	d := disk.New(1000)
	n := New(who(1, 4), d)
	n.Clock(3)
	for _, m := range []api.Msg{txOf(0, 5, 1), blockOf(0, on(0, 1, 0)), decidedOf(0, 0, of(1, 0)), decidedOf(2, 0, of(1, 0)), proposeOf(0, 0, 0, of(2, 0), -1)} {
		b := dataOf(t, m)
		for i := range b {
			wrong := slices.Clone(b)
			wrong[i] ^= 1
			sends(t, "changed", n.Handle(wrong))
			sends(t, "cut off", n.Handle(b[:i]))
		}
		sends(t, "with more behind it", n.Handle(append(slices.Clone(b), 0)))
	}
	sends(t, "nothing", n.Handle(nil))
	tells(t, "nothing", n, look{slot: 3})
	holds(t, "nothing", d, 0)
	sends(t, "nothing is wanted", n.Tick(3))
}

// TestHandleFrom: what it said itself is nothing, nor is what none of the nodes said.
func TestHandleFrom(t *testing.T) {
	for nodes := 1; nodes <= 7; nodes++ {
		for me := range nodes {
			for from := range 7 {
				b := on(0, 1, (me+1)%7, 8)
				n := New(who(me, nodes), recsOf(t, rec6(0, 0), recOf(t, b)))
				before := lookAt(n)
				mine := b
				mine.Variant, mine.Txs = 1, nil
				got := hand(t, n, txOf(from, 5, 1), blockOf(from, mine), askOf(from, of(1, (me+1)%7)), prepareOf(from, 0, 0, 0), decidedOf(from, 1, of(2, 0)))
				if from == me || from >= nodes {
					sends(t, "nobody", got)
					tells(t, "nobody", n, before)
					if tree := n.chain.Tree(); len(tree.Names()) != 1 || len(n.fetch.Wanted()) > 0 {
						t.Errorf("%d of %d, from %d: known is %v, wanted %v", me, nodes, from, tree.Names(), n.fetch.Wanted())
					}
					continue
				}
				sends(t, "another one", got[:2], to(from, blockOf(me, b)), to(from, decidedOf(me, 0, 0)))
				if tree := n.chain.Tree(); len(tree.Names()) != 2 || len(n.Pool()) != 1 {
					t.Errorf("%d of %d, from %d: known is %v, the pool %v", me, nodes, from, tree.Names(), n.Pool())
				}
			}
		}
	}
}

// TestHandleTx: it is in the pool, and nobody is told.
func TestHandleTx(t *testing.T) {
	d := disk.New(0)
	n := New(who(1, 4), d)
	sends(t, "three", hand(t, n, txOf(0, 5, 1), txOf(2, 6, 3), txOf(0, 5, 9), txOf(3, 7, 1)))
	tells(t, "three", n, look{pool: []api.Tx{{ID: 6, Fee: 3}, {ID: 5, Fee: 1}, {ID: 7, Fee: 1}}})
	for id := 20; id < 40; id++ {
		sends(t, "many", hand(t, n, txOf(0, id, 2)))
	}
	if l := n.Pool(); len(l) != 16 || l[0] != (api.Tx{ID: 6, Fee: 3}) || l[15] != (api.Tx{ID: 34, Fee: 2}) {
		t.Error("in the pool are", l)
	}
}

// TestHandleAsk: a block that is known is sent to who asks, and nothing else is.
func TestHandleAsk(t *testing.T) {
	d := disk.New(1000)
	n := New(who(1, 4), d)
	n.Clock(9)
	one, two, waits := on(0, 1, 0, 5, 6), on(of(1, 0), 2, 2), on(of(3, 0), 4, 0)
	hand(t, n, blockOf(0, one), blockOf(0, two), blockOf(0, waits))
	l := []api.Rec{recOf(t, one), recOf(t, two)}
	for _, from := range []int{0, 2, 3} {
		sends(t, "known", hand(t, n, askOf(from, of(1, 0)), askOf(from, of(2, 2))), to(from, blockOf(1, one)), to(from, blockOf(1, two)))
		sends(t, "waits, is missing, is none", hand(t, n, askOf(from, of(4, 0)), askOf(from, of(3, 0)), askOf(from, of(7, 0)), askOf(from, 0)))
	}
	holds(t, "asked", d, 0, l...)
	sends(t, "what is wanted", n.Tick(9), all(blockOf(1, two)), to(2, askOf(1, of(3, 0))))
}

// TestHandleWants: what is proposed or decided and isn't known is wanted, whatever the core makes of it.
func TestHandleWants(t *testing.T) {
	for name, c := range map[string]struct {
		m    api.Msg
		want bool
	}{
		"proposed":                       {proposeOf(0, 0, 0, of(5, 0), -1), true},
		"proposed again":                 {proposeOf(0, 0, 4, of(5, 0), 3), true},
		"proposed by another":            {proposeOf(3, 0, 0, of(5, 0), -1), true},
		"proposed in a later index":      {proposeOf(3, 7, 2, of(5, 0), -1), true},
		"proposed in the last one":       {proposeOf(3, 1000, 1000, of(5, 0), 999), true},
		"decided":                        {decidedOf(2, 0, of(5, 0)), true},
		"decided in a later index":       {decidedOf(2, 9, of(5, 0)), true},
		"that waits":                     {decidedOf(2, 0, of(4, 0)), true},
		"that is missing":                {decidedOf(2, 0, of(3, 0)), true},
		"prepared":                       {prepareOf(0, 0, 0, of(5, 0)), false},
		"committed":                      {commitOf(0, 0, 0, of(5, 0)), false},
		"asked for":                      {askOf(0, of(5, 0)), false},
		"proposed, and known":            {proposeOf(0, 0, 9, of(1, 0), -1), false},
		"decided, and known":             {decidedOf(2, 0, of(1, 0)), false},
		"proposed is 0":                  {proposeOf(3, 0, 0, 0, -1), false},
		"decided is 0":                   {decidedOf(2, 0, 0), false},
		"by itself":                      {decidedOf(1, 0, of(5, 0)), false},
		"by nobody":                      {decidedOf(4, 0, of(5, 0)), false},
		"a block that waits for another": {blockOf(0, on(of(5, 0), 6, 0)), true},
	} {
		n := New(who(1, 4), recsOf(t, recOf(t, on(0, 1, 0)), recOf(t, on(of(3, 0), 4, 0))))
		n.Clock(9)
		hand(t, n, c.m)
		want := []int{}
		switch {
		case c.m.Kind == api.KindBlock:
			want = []int{of(3, 0), of(5, 0)}
		case c.want:
			want = []int{c.m.Value}
		}
		acts := []api.Act{all(blockOf(1, on(0, 1, 0)))}
		for _, name := range want {
			acts = append(acts, to(2, askOf(1, name)))
		}
		sends(t, name, n.Tick(9), acts...)
	}
}

// TestHandleWantsOfAnEarlierIndex: also what is of an index that is over is wanted, if it isn't known.
func TestHandleWantsOfAnEarlierIndex(t *testing.T) {
	n := New(who(2, 4), recsOf(t, rec6(0, 0)))
	sends(t, "over", hand(t, n, proposeOf(0, 0, 0, of(5, 0), -1), decidedOf(1, 0, of(6, 0))), to(0, decidedOf(2, 0, 0)))
	sends(t, "over", n.Tick(0), to(3, askOf(2, of(5, 0))), to(3, askOf(2, of(6, 0))))
}

// TestHandleDecides: what others said was decided is decided, known or not; it is final when it comes.
func TestHandleDecides(t *testing.T) {
	d := disk.New(1000)
	n := New(who(1, 4), d)
	n.Clock(9)
	sends(t, "one", hand(t, n, decidedOf(0, 0, of(1, 0))))
	sends(t, "two", hand(t, n, decidedOf(3, 0, of(1, 0))), all(decidedOf(1, 0, of(1, 0))))
	holds(t, "two", d, 1, rec6(0, of(1, 0)))
	tells(t, "two", n, look{slot: 9, decisions: []int{of(1, 0)}})
	sends(t, "it is asked for", n.Tick(9), all(proposeOf(1, 1, 0, 0, -1)), all(prepareOf(1, 1, 0, 0)), to(2, askOf(1, of(1, 0))))
	sends(t, "it comes", hand(t, n, blockOf(2, on(0, 1, 0, 5))))
	tells(t, "it comes", n, look{slot: 9, tip: of(1, 0), confirmed: of(1, 0), decisions: []int{of(1, 0)}, final: []int{5}, avail: []int{5}})
	sends(t, "it is there", n.Tick(9), all(proposeOf(1, 1, 0, 0, -1)), all(prepareOf(1, 1, 0, 0)), all(blockOf(1, on(0, 1, 0, 5))))
}

// TestSubmit: it is in the pool, and sent to all; what can't be or is there isn't.
func TestSubmit(t *testing.T) {
	d := disk.New(0)
	n := New(who(1, 4), d)
	submit := func(x api.Tx, want api.Errno) {
		t.Helper()
		l, e := n.Submit(x)
		if e != want {
			t.Errorf("%v: %d, not %d", x, e, want)
		}
		if want == 0 {
			sends(t, "submitted", l, all(api.Msg{Kind: api.KindTx, From: 1, Tx: x}))
		} else {
			sends(t, "not submitted", l)
		}
	}
	for _, x := range []api.Tx{{}, {ID: -1}, {ID: 1000001}, {ID: 1, Fee: -1}, {ID: 1, Fee: 1001}} {
		submit(x, api.ErrTx)
	}
	tells(t, "none", n, look{})
	submit(api.Tx{ID: 1}, 0)
	submit(api.Tx{ID: 1000000, Fee: 1000}, 0)
	submit(api.Tx{ID: 1, Fee: 5}, api.ErrPool)
	submit(api.Tx{ID: 1, Fee: 1001}, api.ErrTx)
	tells(t, "two", n, look{pool: []api.Tx{{ID: 1000000, Fee: 1000}, {ID: 1}}})
	for id := 2; id <= 15; id++ {
		submit(api.Tx{ID: id, Fee: 1}, 0)
	}
	submit(api.Tx{ID: 16}, api.ErrPool)
	submit(api.Tx{ID: 16, Fee: 2}, 0)
	if l := n.Pool(); len(l) != 16 || l[15] != (api.Tx{ID: 15, Fee: 1}) {
		t.Error("in the pool are", l)
	}
	holds(t, "in the pool", d, 0)
}

// TestTells: what is confirmed is deep enough, what is final was decided, and what is available has both.
func TestTells(t *testing.T) {
	s := who(1, 4)
	s.Deep = 1
	n := New(s, disk.New(1000))
	n.Clock(6)
	hand(t, n, blockOf(0, on(0, 1, 0, 1, 2)), blockOf(0, on(of(1, 0), 2, 0, 3)), blockOf(0, on(of(2, 0), 3, 0, 4)), blockOf(0, on(0, 3, 3, 2, 9)))
	want := look{slot: 6, tip: of(3, 0), confirmed: of(2, 0), avail: []int{1, 2, 3}}
	tells(t, "nothing is decided", n, want)
	hand(t, n, decidedOf(0, 0, of(3, 3)), decidedOf(2, 0, of(3, 3)))
	want.decisions, want.final, want.avail = []int{of(3, 3)}, []int{2, 9}, []int{2, 9, 1, 3}
	tells(t, "another way is decided", n, want)
	hand(t, n, decidedOf(0, 1, of(5, 3)), decidedOf(2, 1, of(5, 3)), decidedOf(0, 2, of(1, 0)), decidedOf(2, 2, of(1, 0)))
	want.decisions = []int{of(3, 3), of(5, 3), of(1, 0)}
	tells(t, "what isn't known is decided", n, want)
	hand(t, n, blockOf(3, on(of(3, 3), 5, 3, 4)))
	want.final, want.avail = []int{2, 9, 4, 1}, []int{2, 9, 4, 1, 3}
	tells(t, "it comes", n, want)
}
