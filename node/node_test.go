package node

import (
	"bytes"
	"slices"
	"testing"

	"neaptide/api"
	"neaptide/block"
	"neaptide/disk"
	"neaptide/journal"
	"neaptide/msg"
)

// of answers the name of a node's first block of a slot.
func of(slot, miner int) int { return slot*65536 + miner*256 }

// on answers a node's first block of a slot, on another one, with transactions of these IDs.
func on(parent, slot, miner int, ids ...int) api.Block {
	b := api.Block{Slot: slot, Miner: miner, Parent: parent}
	for _, id := range ids {
		b.Txs = append(b.Txs, api.Tx{ID: id, Fee: id % 7})
	}
	return b
}

// who answers one of so many nodes with 1 each: it makes no blocks, but all others may in each slot, what is highest is confirmed, and it waits long.
func who(me, nodes int) api.Self {
	return api.Self{Me: me, Stakes: slices.Repeat([]int{1}, nodes), Draws: slices.Repeat([]int{127 &^ (1 << me)}, 200), Base: 100, Most: 1000}
}

// miner answers the same, but it makes a block in each slot.
func miner(me, nodes int) api.Self {
	s := who(me, nodes)
	s.Draws = slices.Repeat([]int{127}, 200)
	return s
}

func txOf(from, id, fee int) api.Msg {
	return api.Msg{Kind: api.KindTx, From: from, Tx: api.Tx{ID: id, Fee: fee}}
}

func blockOf(from int, b api.Block) api.Msg {
	return api.Msg{Kind: api.KindBlock, From: from, Block: b}
}

func askOf(from, name int) api.Msg { return api.Msg{Kind: api.KindAsk, From: from, Value: name} }

func proposeOf(from, index, view, value, prepared int) api.Msg {
	return api.Msg{Kind: api.KindPropose, From: from, Index: index, View: view, Value: value, Prepared: prepared}
}

func prepareOf(from, index, view, value int) api.Msg {
	return api.Msg{Kind: api.KindPrepare, From: from, Index: index, View: view, Value: value}
}

func commitOf(from, index, view, value int) api.Msg {
	return api.Msg{Kind: api.KindCommit, From: from, Index: index, View: view, Value: value}
}

func decidedOf(from, index, value int) api.Msg {
	return api.Msg{Kind: api.KindDecided, From: from, Index: index, Value: value}
}

// recOf answers the record of a block.
func recOf(t *testing.T, b api.Block) api.Rec {
	t.Helper()
	text, e := block.Bytes(b)
	if e != 0 {
		t.Fatalf("%v has no bytes: %d", b, e)
	}
	return api.Rec{Kind: 1, Value: block.Name(b), Text: text}
}

func rec4(index, view, value int) api.Rec {
	return api.Rec{Kind: 4, Index: index, View: view, Value: value}
}

func rec5(index, view, value int) api.Rec {
	return api.Rec{Kind: 5, Index: index, View: view, Value: value}
}

func rec6(index, value int) api.Rec { return api.Rec{Kind: 6, Index: index, Value: value} }

// bytesOf answers the bytes of records, one behind the other.
func bytesOf(t *testing.T, recs ...api.Rec) []byte {
	t.Helper()
	var l []byte
	for _, r := range recs {
		b, e := journal.Bytes(r)
		if e != 0 {
			t.Fatalf("%v has no bytes: %d", r, e)
		}
		l = append(l, b...)
	}
	return l
}

// diskOf answers a disk with these bytes, all synced.
func diskOf(t *testing.T, b []byte) *disk.Disk {
	t.Helper()
	d := disk.New(api.MaxDisk)
	if e := d.Append(b); e != 0 {
		t.Fatal("no room:", e)
	}
	d.Sync()
	return d
}

// recsOf answers a disk with these records, all synced.
func recsOf(t *testing.T, recs ...api.Rec) *disk.Disk {
	t.Helper()
	return diskOf(t, bytesOf(t, recs...))
}

// holds tells it, if a disk holds anything but these records, or if others are synced than the first so many.
func holds(t *testing.T, what string, d *disk.Disk, synced int, recs ...api.Rec) {
	t.Helper()
	if want := bytesOf(t, recs...); !bytes.Equal(d.Bytes(), want) {
		t.Errorf("%s: on the disk is\n%v, not\n%v", what, journal.Read(d), recs)
		return
	}
	if want := len(bytesOf(t, recs[:synced]...)); d.Synced() != want {
		t.Errorf("%s: synced are %d bytes, not %d", what, d.Synced(), want)
	}
}

// dataOf answers a message's bytes.
func dataOf(t *testing.T, m api.Msg) []byte {
	t.Helper()
	b, e := msg.Bytes(m)
	if e != 0 {
		t.Fatalf("%+v has no bytes: %d", m, e)
	}
	return b
}

// hand hands messages in, one after the other, and answers all that is sent by that.
func hand(t *testing.T, n *Node, l ...api.Msg) []api.Packet {
	t.Helper()
	var sent []api.Packet
	for _, m := range l {
		sent = append(sent, n.Handle(dataOf(t, m))...)
	}
	return sent
}

// all answers that a message goes to all.
func all(m api.Msg) api.Act { return api.Act{To: -1, Msg: m} }

// to answers that a message goes to one node.
func to(node int, m api.Msg) api.Act { return api.Act{To: node, Msg: m} }

// saysOf answers what packets say.
func saysOf(l []api.Packet) []api.Act {
	var acts []api.Act
	for _, p := range l {
		m, e := msg.Read(p.Data)
		if e != 0 {
			m = api.Msg{Kind: -1}
		}
		acts = append(acts, api.Act{To: p.To, Msg: m})
	}
	return acts
}

// sends tells it, if packets aren't just these messages.
func sends(t *testing.T, what string, got []api.Packet, want ...api.Act) {
	t.Helper()
	same := func(p api.Packet, a api.Act) bool { return p.To == a.To && bytes.Equal(p.Data, dataOf(t, a.Msg)) }
	if !slices.EqualFunc(got, want, same) {
		t.Errorf("%s: sent is\n%+v, not\n%+v", what, saysOf(got), want)
	}
}

// look is what a node tells of itself.
type look struct {
	slot, tip, confirmed    int
	decisions, final, avail []int
	pool                    []api.Tx
}

func lookAt(n *Node) look {
	return look{n.Slot(), n.Tip(), n.Confirmed(), n.Decisions(), n.Final(), n.Avail(), n.Pool()}
}

func (l look) same(o look) bool {
	return l.slot == o.slot && l.tip == o.tip && l.confirmed == o.confirmed && slices.Equal(l.decisions, o.decisions) &&
		slices.Equal(l.final, o.final) && slices.Equal(l.avail, o.avail) && slices.Equal(l.pool, o.pool)
}

// tells tells it, if a node tells something else of itself, or is down.
func tells(t *testing.T, what string, n *Node, want look) {
	t.Helper()
	if got := lookAt(n); !got.same(want) || n.Down() {
		t.Errorf("%s: told is\n%+v (down: %v), not\n%+v", what, got, n.Down(), want)
	}
}

// TestExample: one node alone that wins each slot: with each Tick it makes a block, and decides what is confirmed.
func TestExample(t *testing.T) {
	for deep := range 4 {
		s, d := miner(0, 1), disk.New(api.MaxDisk)
		s.Deep = deep
		n := New(s, d)
		var recs []api.Rec
		var decisions []int
		tip := 0
		for slot := 1; slot <= 20; slot++ {
			index, b := slot-1, on(tip, slot, 0)
			confirmed := 0
			if slot > deep {
				confirmed = of(slot-deep, 0)
			}
			sends(t, "the tick", n.Tick(slot), all(blockOf(0, b)), all(proposeOf(0, index, 0, confirmed, -1)),
				all(prepareOf(0, index, 0, confirmed)), all(commitOf(0, index, 0, confirmed)), all(decidedOf(0, index, confirmed)))
			recs = append(recs, recOf(t, b), rec4(index, 0, confirmed), rec5(index, 0, confirmed), rec6(index, confirmed))
			holds(t, "the tick", d, len(recs), recs...)
			tip, decisions = of(slot, 0), append(decisions, confirmed)
			tells(t, "the tick", n, look{slot: slot, tip: tip, confirmed: confirmed, decisions: decisions})
		}
	}
}

// TestTwoNodes: nothing of one is in another.
func TestTwoNodes(t *testing.T) {
	one, two := disk.New(100), disk.New(200)
	a, b := New(who(0, 4), one), New(who(0, 4), two)
	a.Clock(3)
	a.Submit(api.Tx{ID: 5})
	hand(t, a, blockOf(1, on(0, 2, 1, 7)), decidedOf(1, 0, 0), decidedOf(2, 0, 0))
	b.Clock(1)
	b.Submit(api.Tx{ID: 6})
	tells(t, "the one", a, look{slot: 3, tip: of(2, 1), confirmed: of(2, 1), decisions: []int{0}, avail: []int{7}, pool: []api.Tx{{ID: 5}}})
	tells(t, "the other", b, look{slot: 1, pool: []api.Tx{{ID: 6}}})
	holds(t, "the one", one, 2, recOf(t, on(0, 2, 1, 7)), rec6(0, 0))
	holds(t, "the other", two, 0)
}
