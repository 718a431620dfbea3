package cluster

import (
	"math"
	"slices"
	"testing"

	"neaptide/api"
)

// TestStepOtherKinds: what is no kind does nothing.
func TestStepOtherKinds(t *testing.T) {
	c := begin(t, so(4, 3))
	does(t, "something is there", c, tick(), sleep(1), crash(2, 0))
	for _, kind := range append([]int{12, 13, 99}, far...) {
		if kind == 7 || kind == 8 {
			continue
		}
		for i := range 4 {
			doesNot(t, "no kind", c, api.Step{Kind: kind, Node: i, Tx: api.Tx{ID: 1}, Data: dataOf(t, txOf(3, 1, 1))})
		}
	}
}

// TestStepMore: what its kind doesn't have doesn't matter.
func TestStepMore(t *testing.T) {
	plain, more := begin(t, so(4, 3)), begin(t, so(4, 3))
	bad := dataOf(t, txOf(3, 1, 1))
	for _, s := range []api.Step{
		tick(), deliver(1), drop(0), double(0), submit(0, 5, 5), sleep(1), wake(1), tick(), crash(2, 3), start(2), cut(2), cut(0), inject(1, bad), room(1, 9), tick(), deliver(3), deliver(99),
	} {
		full := s
		switch s.Kind {
		case api.StepSubmit, api.StepInject, api.StepSleep, api.StepWake, api.StepStart:
			full.N = 77
		case api.StepTick:
			full.Node, full.N = -5, 77
		case api.StepDeliver, api.StepDrop, api.StepDouble, api.StepCut:
			full.Node = 3
		}
		if s.Kind != api.StepSubmit {
			full.Tx = api.Tx{ID: 2, Fee: 2}
		}
		if s.Kind != api.StepInject {
			full.Data = bad
		}
		if one, two := plain.Step(s), more.Step(full); one != two || !lookAt(plain).same(lookAt(more)) {
			t.Errorf("%+v: %v, and with more %v", s, one, two)
		}
	}
}

// TestTick: the slot is one more each time, as far as 200.
func TestTick(t *testing.T) {
	for _, bad := range [][]int{nil, {0}} {
		c := begin(t, so(1, bad...))
		for slot := 1; slot <= 200; slot++ {
			does(t, "the next slot", c, tick())
			if c.Slot() != slot {
				t.Fatalf("slot %d is %d", slot, c.Slot())
			}
			if bad == nil && (c.Tip(0) != of(slot, 0) || len(c.Decisions(0)) != slot) {
				t.Fatalf("slot %d: tip %d, decided %v", slot, c.Tip(0), c.Decisions(0))
			}
		}
		doesNot(t, "the last slot", c, tick(), tick())
		if c.Slot() != 200 {
			t.Errorf("slot %d", c.Slot())
		}
	}
}

// TestTickWhom: those tick that are up and awake, and no others.
func TestTickWhom(t *testing.T) {
	config := so(7, 6)
	config.Draws = slices.Repeat([]int{127}, 200)
	c := begin(t, config)
	does(t, "four are left", c, sleep(1), crash(2, 0), room(4, 0), tick())
	for i, tip := range []int{of(1, 0), 0, 0, of(1, 3), 0, of(1, 5), 0} {
		if c.Tip(i) != tip {
			t.Errorf("the tip of %d is %d", i, c.Tip(i))
		}
	}
	from := map[int]bool{}
	for _, p := range wayOf(c) {
		from[p.from] = true
	}
	if len(from) != 3 || !from[0] || !from[3] || !from[5] {
		t.Error("parcels are from", from)
	}
	does(t, "node 4 is down, and gets room", c, room(4, 5000), wake(1), start(2), tick())
	for i, tip := range []int{of(2, 0), of(2, 1), of(2, 2), of(2, 3), 0, of(2, 5), 0} {
		if c.Tip(i) != tip {
			t.Errorf("the tip of %d is %d", i, c.Tip(i))
		}
	}
	if c.Up(4) {
		t.Error("room alone doesn't bring it up")
	}
}

// TestDeliver: what is at that place is taken and handled.
func TestDeliver(t *testing.T) {
	c := begin(t, so(4))
	does(t, "three transactions", c, submit(0, 5, 1), submit(1, 6, 1), submit(2, 7, 1))
	for _, at := range append([]int{9, 10, c.Len()}, far...) {
		if at < 0 || at >= c.Len() {
			doesNot(t, "there is none", c, deliver(at))
		}
	}
	// To 1, 2 and 3 from 0; to 0, 2 and 3 from 1; to 0, 1 and 3 from 2.
	for _, x := range []struct{ at, from, to, id int }{{4, 1, 2, 6}, {7, 2, 3, 7}, {0, 0, 1, 5}, {5, 2, 1, 7}, {1, 0, 3, 5}} {
		before := wayOf(c)
		p := before[x.at]
		if p.from != x.from || p.to != x.to {
			t.Fatalf("%+v is from %d to %d", x, p.from, p.to)
		}
		does(t, "delivered", c, deliver(x.at))
		isWay(t, "it is gone, the others stay", c, slices.Delete(before, x.at, x.at+1))
	}
	for i, want := range [][]int{{5}, {5, 6, 7}, {6, 7}, {5, 7}} {
		var got []int
		for _, x := range c.members[i].node.Pool() {
			got = append(got, x.ID)
		}
		if !slices.Equal(got, want) {
			t.Errorf("node %d has %v", i, got)
		}
	}
}

// TestDeliverEmits: what the receiver sends is on its way behind all others.
func TestDeliverEmits(t *testing.T) {
	c := begin(t, so(4))
	does(t, "the first slot", c, tick())
	b := on(0, 1, 0)
	at := where(c, 2, dataOf(t, voteOf(api.KindPrepare, 0, 0, 0, of(1, 0))))
	before := wayOf(c)
	does(t, "a vote", c, deliver(at))
	isWay(t, "nothing is sent by that", c, slices.Delete(before, at, at+1))
	does(t, "the block", c, deliver(where(c, 2, dataOf(t, blockOf(0, b)))))
	before = wayOf(c)
	at = where(c, 2, dataOf(t, api.Msg{Kind: api.KindPropose, Value: of(1, 0), Prepared: -1}))
	does(t, "the proposal", c, deliver(at))
	vote := dataOf(t, voteOf(api.KindPrepare, 2, 0, 0, of(1, 0)))
	want := append(slices.Delete(before, at, at+1), parcel{2, 0, vote}, parcel{2, 1, vote}, parcel{2, 3, vote})
	isWay(t, "its own vote", c, want)
}

// TestDeliverFull: what is delivered makes room for what is sent by that.
func TestDeliverFull(t *testing.T) {
	c := begin(t, so(4))
	slots(t, c, 3)
	does(t, "a vote of long ago", c, inject(0, dataOf(t, voteOf(api.KindPrepare, 1, 0, 0, of(1, 0)))))
	fill(t, c)
	decided := dataOf(t, api.Msg{Kind: api.KindDecided, Value: of(1, 0)})
	for at := range 3 {
		does(t, "with no room ahead of it", c, deliver(at))
		if p, _ := c.way.At(api.MaxBag - 1); c.Len() != api.MaxBag || !p.same(parcel{0, 1, decided}) {
			t.Errorf("on their way are %d, last %+v", c.Len(), p)
		}
	}
}

// TestDeliverWhom: not to one that sleeps, doesn't run or is down.
func TestDeliverWhom(t *testing.T) {
	c := begin(t, so(4))
	does(t, "one to each", c, submit(0, 5, 1))
	does(t, "1 sleeps", c, sleep(1))
	doesNot(t, "to one that sleeps", c, deliver(0))
	does(t, "1 sleeps, and doesn't run", c, crash(1, 0))
	doesNot(t, "to one that sleeps and doesn't run", c, deliver(0))
	does(t, "1 doesn't run", c, wake(1))
	doesNot(t, "to one that doesn't run", c, deliver(0))
	does(t, "1 runs", c, start(1), deliver(0))
	does(t, "3 is down", c, room(3, 0), tick(), tick(), tick(), tick())
	at := slices.IndexFunc(wayOf(c), func(p parcel) bool { return p.to == 3 })
	doesNot(t, "to one that is down", c, deliver(at))
	does(t, "3 has room again", c, room(3, 65536))
	doesNot(t, "to one that is still down", c, deliver(at))
	does(t, "3 runs again", c, crash(3, 0))
	doesNot(t, "to one that doesn't run", c, deliver(at))
	does(t, "3 runs again", c, start(3), deliver(at))
}

// TestDeliverFrom: it doesn't matter what the sender does by then.
func TestDeliverFrom(t *testing.T) {
	c := begin(t, so(4, 3))
	does(t, "from three", c, submit(0, 5, 1), submit(1, 6, 1), inject(0, dataOf(t, txOf(3, 9, 1))))
	does(t, "they are gone", c, sleep(0), crash(1, 0), wake(0))
	does(t, "0 sleeps again", c, sleep(0))
	does(t, "to 2", c, deliver(where(c, 2, dataOf(t, txOf(0, 5, 1)))))
	does(t, "to 2", c, deliver(where(c, 2, dataOf(t, txOf(1, 6, 1)))))
	does(t, "to 0", c, wake(0), deliver(where(c, 0, dataOf(t, txOf(3, 9, 1)))))
}

// TestSides: for each mask, delivered is just what is from one on the same side, also what a bad one says.
func TestSides(t *testing.T) {
	for mask := range 256 {
		c := begin(t, so(7, 5))
		for i := range 5 {
			does(t, "one of each", c, submit(i, 1+i, 1))
			does(t, "one of the bad one", c, inject(i, dataOf(t, txOf(5, 10+i, 1))))
		}
		does(t, "cut", c, cut(mask))
		for at := 0; at < c.Len(); {
			p := wayOf(c)[at]
			same := mask>>p.from&1 == mask>>p.to&1
			if same {
				does(t, "on one side", c, deliver(at))
				continue
			}
			if mask%16 == 5 {
				doesNot(t, "on unlike sides", c, deliver(at))
			} else if c.Step(deliver(at)) {
				t.Errorf("mask %d: from %d to %d", mask, p.from, p.to)
			}
			at++
		}
		does(t, "healed", c, cut(0))
		calm(c)
		if c.Len() > 0 {
			t.Errorf("mask %d: not all is delivered behind it: %d", mask, c.Len())
		}
	}
}

// TestCut: it always can be done; the bits of the nodes count alone.
func TestCut(t *testing.T) {
	c := begin(t, so(2))
	does(t, "from 0 to 1", c, submit(0, 5, 1))
	for _, x := range []struct {
		mask int
		same bool
	}{{0, true}, {1, false}, {1, false}, {3, true}, {2, false}, {127, true}, {128, true}, {129, false}, {-1, true}, {-2, false}, {math.MinInt, true}, {math.MaxInt, true}, {1 << 32, true}, {1<<32 + 2, false}} {
		does(t, "cut", c, cut(x.mask))
		if x.same {
			does(t, "on one side", c, double(0), deliver(0))
		} else {
			doesNot(t, "on unlike sides", c, deliver(0))
		}
	}
}

// TestDrop: what is at that place is gone, whoever it is for, and nobody handles it.
func TestDrop(t *testing.T) {
	c := begin(t, so(4))
	doesNot(t, "there is none", c, drop(0))
	does(t, "some", c, submit(0, 5, 1), submit(1, 6, 1), submit(2, 7, 1))
	does(t, "nobody can have them", c, sleep(1), crash(2, 0), cut(8))
	for _, at := range append([]int{9, 10}, far...) {
		if at < 0 || at >= c.Len() {
			doesNot(t, "there is none", c, drop(at))
		}
	}
	for _, at := range []int{8, 0, 3, 1, 4, 0, 0, 1, 0} {
		before := lookAt(c)
		does(t, "dropped", c, drop(at))
		before.way = slices.Delete(before.way, at, at+1)
		if !lookAt(c).same(before) {
			t.Errorf("dropped at %d: %+v", at, lookAt(c))
		}
	}
	doesNot(t, "there is none any more", c, drop(0))
	if l := c.members[3].node.Pool(); len(l) > 0 {
		t.Error("node 3 has", l)
	}
}

// TestDouble: what is at that place is behind all others once more, if there is room.
func TestDouble(t *testing.T) {
	c := begin(t, so(4))
	doesNot(t, "there is none", c, double(0))
	does(t, "some", c, submit(0, 5, 1), submit(1, 6, 1))
	does(t, "nobody can have them", c, sleep(1), crash(2, 0), cut(8))
	for _, at := range append([]int{6}, far...) {
		if at < 0 || at >= c.Len() {
			doesNot(t, "there is none", c, double(at))
		}
	}
	for _, at := range []int{0, 6, 5, 2, 9} {
		before := lookAt(c)
		does(t, "doubled", c, double(at))
		before.way = append(before.way, before.way[at])
		if !lookAt(c).same(before) {
			t.Errorf("doubled at %d: %+v", at, lookAt(c))
		}
	}
	fill(t, c)
	doesNot(t, "there is no room", c, double(0), double(3999), double(4000))
	does(t, "room for one", c, drop(17), double(3998))
	doesNot(t, "there is no room", c, double(0))
}
