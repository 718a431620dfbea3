package node

import (
	"bytes"
	"slices"
	"testing"

	"neaptide/api"
	"neaptide/block"
	"neaptide/chain"
	"neaptide/check"
	"neaptide/disk"
	"neaptide/fetch"
	"neaptide/journal"
	"neaptide/ledger"
	"neaptide/mempool"
	"neaptide/msg"
)

// dice answers numbers that a seed leads to.
type dice uint64

func (d *dice) next(n int) int {
	*d = *d*6364136223846793005 + 1442695040888963407
	return int(*d>>33) % n
}

// model does what a node does out of the layers below it, step by step; what is written it asks of the records themselves.
type model struct {
	api.Self
	on           []byte
	synced, room int
	recs         []api.Rec
	chain        *chain.Chain
	pool         *mempool.Pool
	core         *check.Core
	fetch        *fetch.Fetch
	down         bool
	out          []api.Packet
}

// begin is New: what is on the disk is left as far as it can be read.
func (m *model) begin() {
	recs, size := journal.Scan(m.on)
	m.on, m.synced, m.recs, m.down = m.on[:size], min(m.synced, size), recs, false
	m.chain, m.pool = chain.New(m.Draws, m.Deep), mempool.New()
	m.core, m.fetch = check.New(m.Me, m.Stakes, m.Base, m.Most), fetch.New(m.Me, len(m.Stakes))
	for _, r := range recs {
		b, e := block.Read(r.Text)
		if r.Kind != 1 || e != 0 {
			continue
		}
		m.chain.Next(b.Slot)
		m.chain.Take(b)
	}
	m.core.Restore(recs)
}

// crash leaves so many bytes behind those that are synced.
func (m *model) crash(keep int) {
	m.on = m.on[:min(len(m.on), m.synced+keep)]
	m.synced = len(m.on)
}

func (m *model) write(r api.Rec) {
	b, _ := journal.Bytes(r)
	m.down = m.down || len(m.on)+len(b) > m.room
	if !m.down {
		m.on, m.recs = append(m.on, b...), append(m.recs, r)
	}
}

func (m *model) sync() {
	if !m.down {
		m.synced = len(m.on)
	}
}

func (m *model) send(to int, x api.Msg) {
	x.From = m.Me
	b, _ := msg.Bytes(x)
	m.out = append(m.out, api.Packet{To: to, Data: b})
}

// isWritten answers whether a vote is among the records, or how many decisions are, from the first one on.
func (m *model) isWritten(x api.Msg) bool {
	decided := 0
	for _, r := range m.recs {
		if r.Kind == x.Kind && r.Kind != 6 && r.Index == x.Index && r.View == x.View {
			return true
		}
		if r.Kind == 6 && r.Index == decided {
			decided++
		}
	}
	return x.Kind == 6 && x.Index != decided
}

func (m *model) keep(acts []api.Act) {
	for _, a := range acts {
		if a.To == -1 && a.Msg.Kind > 3 && !m.isWritten(a.Msg) {
			m.write(api.Rec{Kind: a.Msg.Kind, Index: a.Msg.Index, View: a.Msg.View, Value: a.Msg.Value})
			m.sync()
		}
		m.send(a.To, a.Msg)
	}
}

func (m *model) take(b api.Block) {
	names, e := m.chain.Take(b)
	for _, name := range names {
		m.fetch.Got(name)
		known, _ := m.chain.Tree().Get(name)
		for _, x := range known.Txs {
			m.pool.Drop(x.ID)
		}
		text, _ := block.Bytes(known)
		m.write(api.Rec{Kind: 1, Value: name, Text: text})
	}
	for _, name := range m.chain.Tree().Missing() {
		if e == 0 {
			m.fetch.Want(name)
		}
	}
}

func (m *model) tick(slot int) {
	sent := 0
	if slot > m.chain.Slot() {
		m.chain.Next(slot)
		if b, ok := m.chain.Make(m.Me, m.pool.List()); ok {
			m.take(b)
			m.sync()
			m.send(-1, api.Msg{Kind: 1, Block: b})
			sent = block.Name(b)
		}
	}
	m.keep(m.core.Tick(m.chain.Tree().Names(), m.chain.Confirmed()))
	if tip, ok := m.chain.Tree().Get(m.chain.Tree().Tip()); ok && block.Name(tip) != sent {
		m.send(-1, api.Msg{Kind: 1, Block: tip})
	}
	for _, a := range m.fetch.Tick() {
		m.send(a.To, a.Msg)
	}
}

func (m *model) handle(data []byte) {
	x, e := msg.Read(data)
	if e != 0 || x.From == m.Me || x.From >= len(m.Stakes) {
		return
	}
	switch x.Kind {
	case 0:
		m.pool.Add(x.Tx)
	case 1:
		m.take(x.Block)
	case 2:
		if b, ok := m.chain.Tree().Get(x.Value); ok {
			m.send(x.From, api.Msg{Kind: 1, Block: b})
		}
	default:
		m.keep(m.core.Handle(x, m.chain.Tree().Names()))
		if (x.Kind == 3 || x.Kind == 6) && x.Value != 0 && !m.chain.Tree().Has(x.Value) {
			m.fetch.Want(x.Value)
		}
	}
}

// do does one thing, if it isn't down, and answers what is sent by that.
func (m *model) do(thing func()) []api.Packet {
	m.out = nil
	if !m.down {
		thing()
	}
	if m.down {
		return nil
	}
	return m.out
}

func (m *model) look() look {
	if m.down {
		return look{}
	}
	l := m.core.Decisions()
	return look{m.chain.Slot(), m.chain.Tree().Tip(), m.chain.Confirmed(), l, ledger.Final(m.chain, l), ledger.Avail(m.chain, l), m.pool.List()}
}

// pair is a node and its model.
type pair struct {
	n *Node
	d *disk.Disk
	m *model
}

func newPair(s api.Self) *pair {
	p := &pair{d: disk.New(api.MaxDisk), m: &model{Self: s, room: api.MaxDisk}}
	p.start()
	return p
}

// start has both begin on what is on their disks.
func (p *pair) start() {
	p.n = New(p.m.Self, p.d)
	p.m.begin()
}

// same tells it, if the node isn't as its model, or didn't send what that one did.
func (p *pair) same(t *testing.T, seed int, got, want []api.Packet) {
	t.Helper()
	equal := func(a, b api.Packet) bool { return a.To == b.To && bytes.Equal(a.Data, b.Data) }
	if !slices.EqualFunc(got, want, equal) {
		t.Fatalf("seed %d, node %d: sent is\n%+v, not\n%+v", seed, p.m.Me, saysOf(got), saysOf(want))
	}
	if !bytes.Equal(p.d.Bytes(), p.m.on) || p.d.Synced() != p.m.synced || p.n.Down() != p.m.down {
		t.Fatalf("seed %d, node %d: on the disk is\n%v (synced %d, down %v), not\n%v (%d, %v)", seed, p.m.Me, p.d.Bytes(), p.d.Synced(), p.n.Down(), p.m.on, p.m.synced, p.m.down)
	}
	if got, want := lookAt(p.n), p.m.look(); !got.same(want) {
		t.Fatalf("seed %d, node %d: told is\n%+v, not\n%+v", seed, p.m.Me, got, want)
	}
}

// parcel is bytes on their way.
type parcel struct {
	to   int
	data []byte
}

// world is some nodes, what is on its way between them, and the slot.
type world struct {
	d     *dice
	seed  int
	nodes []*pair
	way   []parcel
	slot  int
	seen
}

// seen is how often the less ordinary things were done.
type seen struct{ crashes, downs, decided, waited, asked, views int }

func newWorld(seed int) *world {
	d := dice(seed)
	w := &world{d: &d, seed: seed}
	s := api.Self{Stakes: make([]int, 1+d.next(5)), Deep: d.next(3), Base: 1 + d.next(3), Most: 1 + d.next(6)}
	for i := range s.Stakes {
		s.Stakes[i] = 1 + d.next(3)*d.next(2)
	}
	for range 40 {
		s.Draws = append(s.Draws, d.next(128)&d.next(128))
	}
	for s.Me = range s.Stakes {
		w.nodes = append(w.nodes, newPair(s))
	}
	return w
}

// emit puts on its way what a node sends.
func (w *world) emit(from int, l []api.Packet) {
	for _, p := range l {
		if m, _ := msg.Read(p.Data); m.Kind == api.KindAsk {
			w.asked++
		}
		for to := range w.nodes {
			if to != from && (p.To == -1 || p.To == to) {
				w.way = append(w.way, parcel{to, p.Data})
			}
		}
	}
	if len(w.way) > 200 {
		w.way = w.way[50:]
	}
}

// odd answers a message of another node that none of them would say so.
func (w *world) odd(p *pair) api.Msg {
	d := w.d
	parent := 0
	if d.next(3) > 0 {
		parent = of(1+d.next(w.slot+1), d.next(4))
	}
	m := api.Msg{Kind: d.next(7), From: d.next(len(w.nodes) + 1)}
	value := []int{0, parent, p.m.chain.Tree().Tip(), p.m.chain.Confirmed()}[d.next(4)]
	switch m.Kind {
	case api.KindTx:
		m.Tx = api.Tx{ID: 1 + d.next(30), Fee: d.next(4)}
	case api.KindBlock:
		m.Block = on(parent, block.Slot(parent)+1+d.next(3), d.next(5), 1+d.next(30))
		m.Block.Variant = d.next(2)
	case api.KindAsk:
		m.Value = value
	default:
		m.Index, m.Value = max(0, len(p.m.core.Decisions())-d.next(2)+d.next(2)), value
		if m.Kind != api.KindDecided {
			m.View = d.next(4)
		}
		if m.Kind == api.KindPropose {
			m.Prepared = d.next(m.View+1) - 1
		}
	}
	return m
}

// step has anything happen to a node and to its model.
func (w *world) step(t *testing.T) {
	i := w.d.next(len(w.nodes))
	p := w.nodes[i]
	var got, want []api.Packet
	switch x := w.d.next(100); {
	case x < 12:
		w.slot += w.d.next(3) * w.d.next(2)
		slot := w.slot - w.d.next(2)
		got, want = p.n.Tick(slot), p.m.do(func() { p.m.tick(slot) })
	case x < 20:
		data := dataOf(t, w.odd(p))
		got, want = p.n.Handle(data), p.m.do(func() { p.m.handle(data) })
	case x < 24:
		x := api.Tx{ID: 1 + w.d.next(30), Fee: w.d.next(5)}
		l, e := p.n.Submit(x)
		if p.m.down != (e == api.ErrDown) {
			t.Fatalf("seed %d: submitted: %d", w.seed, e)
		}
		got, want = l, p.m.do(func() {
			if p.m.pool.Add(x) == 0 {
				p.m.send(-1, api.Msg{Kind: 0, Tx: x})
			}
		})
	case x < 26:
		slot := w.slot + w.d.next(2)
		p.n.Clock(slot)
		p.m.do(func() { p.m.chain.Next(slot) })
	case x < 28:
		w.crash(p)
	case len(w.way) > 0:
		at := w.d.next(len(w.way))
		l := w.way[at]
		if w.d.next(8) > 0 {
			w.way = slices.Delete(w.way, at, at+1)
		}
		i, p = l.to, w.nodes[l.to]
		got, want = p.n.Handle(l.data), p.m.do(func() { p.m.handle(l.data) })
	}
	p.same(t, w.seed, got, want)
	w.emit(i, got)
	w.count(p)
}

// crash takes a node from its disk, and has it begin anew; sometimes there is little room then.
func (w *world) crash(p *pair) {
	keep := w.d.next(3) * w.d.next(40)
	p.d.Crash(keep)
	p.m.crash(keep)
	p.m.room = api.MaxDisk
	if w.d.next(3) == 0 {
		p.m.room = min(len(p.m.on)+w.d.next(400), api.MaxDisk)
	}
	p.d.Limit(p.m.room)
	p.start()
	w.crashes++
}

// count counts what is to be seen at a node.
func (w *world) count(p *pair) {
	if p.m.down {
		w.downs++
		return
	}
	w.decided = max(w.decided, len(p.m.core.Decisions()))
	w.waited += len(p.m.chain.Tree().Waiting())
	w.views = max(w.views, p.m.core.View())
}

// TestModel: whatever happens, nodes do what their models do.
func TestModel(t *testing.T) {
	var all seen
	for seed := range 300 {
		w := newWorld(seed)
		for range 500 {
			w.step(t)
		}
		all.crashes += w.crashes
		all.downs += w.downs
		all.decided += w.decided
		all.waited += w.waited
		all.asked += w.asked
		all.views += w.views
	}
	if least := min(all.crashes, all.downs, all.decided, all.waited, all.asked, all.views); least < 300 {
		t.Errorf("too little of some of these: %+v", all)
	}
	t.Logf("%+v", all)
}
