package cluster

import (
	"bytes"
	"math"
	"slices"
	"testing"

	"neaptide/api"
	"neaptide/disk"
	"neaptide/msg"
)

// far are numbers that no node, and no place on the way, has.
var far = []int{math.MinInt, math.MinInt32, -1 << 8, -7, -1, 7, 8, 64, 256, 4000, 1 << 32, 1<<32 + 1, math.MaxInt}

// of answers the name of a node's first block of a slot.
func of(slot, miner int) int { return slot*65536 + miner*256 }

// on answers a node's first block of a slot, on another one, with transactions of these IDs.
func on(parent, slot, miner int, ids ...int) api.Block {
	b := api.Block{Slot: slot, Miner: miner, Parent: parent}
	for _, id := range ids {
		b.Txs = append(b.Txs, api.Tx{ID: id, Fee: id % 7})
	}
	return b
}

func blockOf(from int, b api.Block) api.Msg {
	return api.Msg{Kind: api.KindBlock, From: from, Block: b}
}

func txOf(from, id, fee int) api.Msg {
	return api.Msg{Kind: api.KindTx, From: from, Tx: api.Tx{ID: id, Fee: fee}}
}

func voteOf(kind, from, index, view, value int) api.Msg {
	return api.Msg{Kind: kind, From: from, Index: index, View: view, Value: value}
}

// dataOf answers a message's bytes.
func dataOf(t *testing.T, m api.Msg) []byte {
	t.Helper()
	data, e := msg.Bytes(m)
	if e != api.OK {
		t.Fatalf("%+v can't be", m)
	}
	return data
}

// turns answers draws by which the nodes win in turn, one a slot.
func turns(nodes int) []int {
	draws := make([]int, api.MaxSlots)
	for i := range draws {
		draws[i] = 1 << (i % nodes)
	}
	return draws
}

// so answers so many nodes with 1 each, who win in turn; what is highest is confirmed.
func so(nodes int, bad ...int) api.Config {
	return api.Config{Stakes: slices.Repeat([]int{1}, nodes), Bad: bad, Draws: turns(nodes), Base: 2, Most: 8, Room: api.MaxDisk}
}

// begin answers a cluster that can be.
func begin(t *testing.T, c api.Config) *Cluster {
	t.Helper()
	out, e := New(c)
	if e != api.OK || out == nil {
		t.Fatalf("%+v can't be: %d", c, e)
	}
	return out
}

// does tells it, if a step doesn't do anything.
func does(t *testing.T, what string, c *Cluster, l ...api.Step) {
	t.Helper()
	for _, s := range l {
		if !c.Step(s) {
			t.Errorf("%s: %+v does nothing", what, s)
		}
	}
}

// doesNot tells it, if a step does something, or changes anything though it says that it doesn't.
func doesNot(t *testing.T, what string, c *Cluster, l ...api.Step) {
	t.Helper()
	before := lookAt(c)
	for _, s := range l {
		if c.Step(s) {
			t.Errorf("%s: %+v does something", what, s)
		}
		if after := lookAt(c); !after.same(before) {
			t.Errorf("%s: %+v changes\n%+v to\n%+v", what, s, before, after)
		}
	}
}

func tick() api.Step                  { return api.Step{Kind: api.StepTick} }
func deliver(at int) api.Step         { return api.Step{Kind: api.StepDeliver, N: at} }
func drop(at int) api.Step            { return api.Step{Kind: api.StepDrop, N: at} }
func double(at int) api.Step          { return api.Step{Kind: api.StepDouble, N: at} }
func sleep(i int) api.Step            { return api.Step{Kind: api.StepSleep, Node: i} }
func wake(i int) api.Step             { return api.Step{Kind: api.StepWake, Node: i} }
func crash(i, keep int) api.Step      { return api.Step{Kind: api.StepCrash, Node: i, N: keep} }
func start(i int) api.Step            { return api.Step{Kind: api.StepStart, Node: i} }
func cut(mask int) api.Step           { return api.Step{Kind: api.StepCut, N: mask} }
func room(i, n int) api.Step          { return api.Step{Kind: api.StepRoom, Node: i, N: n} }
func inject(i int, b []byte) api.Step { return api.Step{Kind: api.StepInject, Node: i, Data: b} }

func submit(i, id, fee int) api.Step {
	return api.Step{Kind: api.StepSubmit, Node: i, Tx: api.Tx{ID: id, Fee: fee}}
}

// calm delivers all that can be.
func calm(c *Cluster) {
	for at := 0; at < c.Len(); {
		if !c.Step(deliver(at)) {
			at++
		}
	}
}

// slots has so many slots go by, with all delivered that can be.
func slots(t *testing.T, c *Cluster, many int) {
	t.Helper()
	for range many {
		does(t, "the next slot", c, tick())
		calm(c)
	}
}

// empty drops all that is on its way.
func empty(t *testing.T, c *Cluster) {
	t.Helper()
	for c.Len() > 0 {
		does(t, "emptied", c, drop(0))
	}
}

// fill doubles what is first on its way, till there is no room.
func fill(t *testing.T, c *Cluster) {
	t.Helper()
	for c.Len() < api.MaxBag {
		does(t, "filled", c, double(0))
	}
}

// wayOf answers all that is on its way.
func wayOf(c *Cluster) []parcel {
	var l []parcel
	for at := range c.Len() {
		p, _ := c.way.At(at)
		l = append(l, p)
	}
	return l
}

// where answers the first place of a message from one node to another; a number below 0, if it isn't on its way.
func where(c *Cluster, to int, data []byte) int {
	return slices.IndexFunc(wayOf(c), func(p parcel) bool { return p.to == to && bytes.Equal(p.data, data) })
}

// saying is a parcel that can be read.
type saying struct {
	from, to int
	m        api.Msg
}

// saysOf answers what parcels say.
func saysOf(t *testing.T, l []parcel) []saying {
	t.Helper()
	var says []saying
	for _, p := range l {
		m, e := msg.Read(p.data)
		if e != api.OK {
			t.Fatalf("%v can't be read", p.data)
		}
		says = append(says, saying{p.from, p.to, m})
	}
	return says
}

// isOnWay tells it, if anything else is on its way than these.
func isOnWay(t *testing.T, what string, c *Cluster, want ...saying) {
	t.Helper()
	same := func(a, b saying) bool { return a.from == b.from && a.to == b.to && msg.Same(a.m, b.m) }
	if got := saysOf(t, wayOf(c)); !slices.EqualFunc(got, want, same) || c.Len() != len(want) {
		t.Errorf("%s: on their way are %d,\n%+v, not\n%+v", what, c.Len(), got, want)
	}
}

// seen is what a cluster tells of a node.
type seen struct {
	honest, up, awake       bool
	tip, confirmed          int
	decisions, final, avail []int
}

func see(c *Cluster, i int) seen {
	return seen{c.Honest(i), c.Up(i), c.Awake(i), c.Tip(i), c.Confirmed(i), c.Decisions(i), c.Final(i), c.Avail(i)}
}

func (s seen) same(o seen) bool {
	return s.honest == o.honest && s.up == o.up && s.awake == o.awake && s.tip == o.tip && s.confirmed == o.confirmed &&
		slices.Equal(s.decisions, o.decisions) && slices.Equal(s.final, o.final) && slices.Equal(s.avail, o.avail)
}

// look is all that can be seen of a cluster, and its disks.
type look struct {
	slot  int
	nodes [api.MaxNodes]seen
	way   []parcel
	disks []stored
}

// stored is what is on a disk.
type stored struct {
	data         []byte
	synced, room int
}

func storedOn(d *disk.Disk) stored { return stored{d.Bytes(), d.Synced(), d.Room()} }

func (s stored) same(o stored) bool {
	return bytes.Equal(s.data, o.data) && s.synced == o.synced && s.room == o.room
}

func lookAt(c *Cluster) look {
	l := look{slot: c.Slot(), way: wayOf(c)}
	for i := range l.nodes {
		l.nodes[i] = see(c, i)
	}
	for _, m := range c.members {
		if m != nil {
			l.disks = append(l.disks, storedOn(m.disk))
		}
	}
	return l
}

func (p parcel) same(o parcel) bool {
	return p.from == o.from && p.to == o.to && bytes.Equal(p.data, o.data)
}

func (l look) same(o look) bool {
	for i := range l.nodes {
		if !l.nodes[i].same(o.nodes[i]) {
			return false
		}
	}
	return l.slot == o.slot && slices.EqualFunc(l.way, o.way, parcel.same) && slices.EqualFunc(l.disks, o.disks, stored.same)
}

// TestExample: four nodes, all parcels delivered behind each tick: all have the same Final.
func TestExample(t *testing.T) {
	c := begin(t, so(4))
	var want []int
	for slot := 1; slot <= 40; slot++ {
		does(t, "a transaction", c, submit(slot*3%4, slot, 0))
		slots(t, c, 1)
		want = append(want, slot)
		for i := range 4 {
			if got := c.Final(i); !slices.Equal(got, c.Final(0)) || len(got) > slot || !slices.Equal(got, want[:len(got)]) {
				t.Errorf("slot %d: node %d has %v, node 0 %v", slot, i, got, c.Final(0))
			}
		}
	}
	if l := c.Final(0); len(l) < 38 {
		t.Error("too little is final:", l)
	}
}

// TestTwoClusters: nothing of one is in another.
func TestTwoClusters(t *testing.T) {
	one, two := begin(t, so(4, 3)), begin(t, so(4, 3))
	fresh := lookAt(two)
	does(t, "one", one, submit(0, 5, 1), cut(1), sleep(1), crash(2, 0), room(0, 10), tick(),
		inject(2, dataOf(t, blockOf(3, on(0, 4, 3)))))
	if !lookAt(two).same(fresh) {
		t.Errorf("the other is changed: %+v", lookAt(two))
	}
	doesNot(t, "the other", two, inject(1, dataOf(t, txOf(0, 5, 1))))
	does(t, "the other", two, inject(1, dataOf(t, blockOf(3, on(0, 4, 3, 7)))), submit(1, 6, 1))
	isOnWay(t, "the other", two, saying{3, 1, blockOf(3, on(0, 4, 3, 7))}, saying{1, 0, txOf(1, 6, 1)}, saying{1, 2, txOf(1, 6, 1)})
	does(t, "the other", two, deliver(1), tick())
}
