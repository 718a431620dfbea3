package cluster

import (
	"slices"
	"testing"

	"neaptide/api"
	"neaptide/disk"
	"neaptide/node"
)

// selfOf answers the node of a number in a cluster.
func selfOf(c api.Config, me int) api.Self {
	return api.Self{Me: me, Stakes: c.Stakes, Draws: c.Draws, Deep: c.Deep, Base: c.Base, Most: c.Most}
}

// twin answers a node as the cluster's, which is asked what it would send.
func twin(c api.Config, me int) *node.Node { return node.New(selfOf(c, me), disk.New(c.Room)) }

// parcels answers what packets of a node come to: each goes to whom it is for of these.
func parcels(from int, packets []api.Packet, whom ...int) []parcel {
	var l []parcel
	for _, p := range packets {
		for _, to := range whom {
			if to != from && (p.To == -1 || p.To == to) {
				l = append(l, parcel{from, to, p.Data})
			}
		}
	}
	return l
}

// isWay tells it, if anything else is on its way than these.
func isWay(t *testing.T, what string, c *Cluster, want []parcel) {
	t.Helper()
	if got := wayOf(c); !slices.EqualFunc(got, want, parcel.same) || c.Len() != len(want) {
		t.Errorf("%s: on their way are\n%+v, not\n%+v", what, saysOf(t, got), saysOf(t, want))
	}
}

// TestEmitOrder: packet by packet, and each to the honest ones, rising.
func TestEmitOrder(t *testing.T) {
	for _, bad := range [][]int{nil, {3}, {0}, {1, 2}, {0, 1, 3}, {0, 1, 2, 3}} {
		config := so(4, bad...)
		config.Draws[0] = 15
		c := begin(t, config)
		does(t, "the first slot", c, tick())
		var honest []int
		var want []parcel
		for i := range 4 {
			if !slices.Contains(bad, i) {
				honest = append(honest, i)
			}
		}
		for _, i := range honest {
			want = append(want, parcels(i, twin(config, i).Tick(1), honest...)...)
		}
		isWay(t, "behind the first slot", c, want)
		if len(honest) > 1 && len(want) == 0 {
			t.Error("nothing is said")
		}
	}
}

// TestEmitToOne: what is for one alone goes to no other one; if that one is bad, it is said all the same.
func TestEmitToOne(t *testing.T) {
	c := begin(t, so(4, 3))
	b := on(0, 1, 0)
	does(t, "the first slot", c, tick())
	does(t, "the block", c, deliver(where(c, 1, dataOf(t, blockOf(0, b)))))
	empty(t, c)
	told := dataOf(t, blockOf(1, b))
	doesNot(t, "not said yet", c, inject(2, told))
	does(t, "the bad one asks", c, inject(1, dataOf(t, api.Msg{Kind: api.KindAsk, From: 3, Value: of(1, 0)})), deliver(0))
	isOnWay(t, "the answer is for the bad one", c)
	does(t, "said by now", c, inject(2, told))
	isOnWay(t, "handed on", c, saying{1, 2, blockOf(1, b)})
	empty(t, c)
	// The same from an honest one: its answer is for that one alone.
	does(t, "a vote of long ago", c, sleep(2))
	slots(t, c, 1)
	index := len(c.Decisions(0))
	if index != 0 {
		t.Fatal("two of three decided", c.Decisions(0))
	}
	does(t, "awake again", c, wake(2))
	slots(t, c, 8)
	if len(c.Decisions(0)) == 0 {
		t.Fatal("nothing is decided")
	}
	empty(t, c)
	vote := voteOf(api.KindPrepare, 1, 0, 0, c.Decisions(0)[0])
	does(t, "that vote", c, inject(0, dataOf(t, vote)), deliver(0))
	decided := api.Msg{Kind: api.KindDecided, From: 0, Value: c.Decisions(0)[0]}
	isOnWay(t, "what was decided", c, saying{0, 1, decided})
}

// TestEmitSaid: all that honest ones send is said, of each kind, whether it comes anywhere or not.
func TestEmitSaid(t *testing.T) {
	config := so(4, 3)
	config.Stakes = []int{9, 1, 1, 1}
	c := begin(t, config)
	others := []*node.Node{twin(config, 0), twin(config, 1), twin(config, 2)}
	was := map[string]bool{}
	says := func(l []api.Packet, step api.Step) {
		t.Helper()
		for _, p := range l {
			if !was[string(p.Data)] {
				doesNot(t, "ahead of it", c, inject(2, p.Data))
			}
			was[string(p.Data)] = true
		}
		does(t, "it is said", c, step)
		for _, p := range l {
			empty(t, c)
			does(t, "behind it", c, inject(2, p.Data))
		}
		empty(t, c)
	}
	var kinds [7]int
	for slot := range 4 {
		sent, _ := others[1].Submit(api.Tx{ID: 9 + slot, Fee: 4})
		says(sent, submit(1, 9+slot, 4))
		sent = nil
		for i := range others {
			sent = append(sent, others[i].Tick(slot+1)...)
		}
		says(sent, tick())
		for _, p := range parcels(0, sent, 1) {
			kinds[saysOf(t, []parcel{p})[0].m.Kind]++
		}
	}
	for kind, many := range kinds {
		if (many > 0) != (kind != api.KindTx && kind != api.KindAsk) {
			t.Errorf("kind %d was sent %d times", kind, many)
		}
	}
}

// TestEmitNoRoom: what has no room is lost, but said; what has room still is there.
func TestEmitNoRoom(t *testing.T) {
	config := so(4)
	for free := range 12 {
		c := begin(t, config)
		does(t, "something", c, submit(2, 5, 5))
		fill(t, c)
		for range free {
			does(t, "some room", c, drop(0))
		}
		before := wayOf(c)
		does(t, "the next slot", c, tick())
		sent := twin(config, 0).Tick(1)
		all := parcels(0, sent, 0, 1, 2, 3)
		if len(all) < 6 {
			t.Fatal("too little is sent:", len(all))
		}
		isWay(t, "no more than there is room for", c, append(before, all[:min(free, len(all))]...))
		for range 20 {
			does(t, "room again", c, drop(0))
		}
		at := c.Len()
		for _, p := range sent {
			does(t, "it was said", c, inject(3, p.Data))
		}
		isWay(t, "it was said", c, append(wayOf(c)[:at], parcels(0, sent, 3)...))
	}
}

// TestEmitToAll: also those that sleep, don't run, are down or on the other side are sent to.
func TestEmitToAll(t *testing.T) {
	c := begin(t, so(7, 6))
	does(t, "nobody listens", c, sleep(1), crash(2, 0), room(3, 0), cut(16), submit(0, 5, 1))
	does(t, "down", c, submit(3, 8, 1), inject(3, dataOf(t, blockOf(6, api.Block{Slot: 7, Miner: 6}))))
	want := []saying{}
	for _, to := range []int{1, 2, 3, 4, 5} {
		want = append(want, saying{0, to, txOf(0, 5, 1)})
	}
	for _, to := range []int{0, 1, 2, 4, 5} {
		want = append(want, saying{3, to, txOf(3, 8, 1)})
	}
	want = append(want, saying{6, 3, blockOf(6, api.Block{Slot: 7, Miner: 6})})
	isOnWay(t, "whatever they do", c, want...)
	// At the latest in slot 4, in which it makes a block, node 3 is to write something, for which it has no room.
	does(t, "till it is down", c, tick(), tick(), tick(), tick())
	if c.Up(3) {
		t.Error("it isn't down")
	}
	empty(t, c)
	does(t, "one speaks", c, submit(4, 6, 1))
	want = nil
	for _, to := range []int{0, 1, 2, 3, 5} {
		want = append(want, saying{4, to, txOf(4, 6, 1)})
	}
	isOnWay(t, "whatever they are", c, want...)
}
