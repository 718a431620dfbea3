package node

import (
	"bytes"
	"slices"
	"testing"

	"neaptide/api"
	"neaptide/block"
	"neaptide/disk"
	"neaptide/msg"
)

// teller is a node, its disk, and all that it ever said of which it may say one thing only.
type teller struct {
	s      api.Self
	d      *disk.Disk
	n      *Node
	votes  map[vote]int
	blocks map[int][]byte
	said   []int // what it said was decided
}

// hear takes down what a node sends, and tells it, if that is unlike what it said before.
func (x *teller) hear(t *testing.T, seed int, l []api.Packet) {
	t.Helper()
	for _, p := range l {
		m, e := msg.Read(p.Data)
		if e != 0 || m.From != x.s.Me {
			t.Fatalf("seed %d: node %d sends what it can't: %+v", seed, x.s.Me, m)
		}
		v := vote{m.Kind, m.Index, m.View}
		switch was, again := x.votes[v]; {
		case m.Kind != api.KindPrepare && m.Kind != api.KindCommit:
		case again && was != m.Value:
			t.Fatalf("seed %d: node %d votes %d, and then %+v", seed, x.s.Me, was, m)
		default:
			x.votes[v] = m.Value
		}
		name := block.Name(m.Block)
		switch was, again := x.blocks[name]; {
		case m.Kind != api.KindBlock || m.Block.Miner != x.s.Me:
		case again && !bytes.Equal(was, p.Data):
			t.Fatalf("seed %d: node %d sends two blocks of the name %d", seed, x.s.Me, name)
		default:
			x.blocks[name] = p.Data
		}
		if m.Kind != api.KindDecided {
			continue
		}
		switch {
		case m.Index == len(x.said) && p.To == -1:
			x.said = append(x.said, m.Value)
		case m.Index >= len(x.said) || x.said[m.Index] != m.Value:
			t.Fatalf("seed %d: node %d decided %v, and says %+v", seed, x.s.Me, x.said, m)
		}
	}
}

// crash has a node begin anew on what is left of its disk, and tells it, if that isn't what was decided.
func (x *teller) crash(t *testing.T, seed, keep, room int) {
	t.Helper()
	x.d.Crash(keep)
	x.d.Limit(room)
	x.n = New(x.s, x.d)
	// What was written last may not have been said, as there was no room for something behind it.
	if l := x.n.Decisions(); len(l) < len(x.said) || !slices.Equal(l[:len(x.said)], x.said) {
		t.Fatalf("seed %d: node %d decided %v, and finds %v", seed, x.s.Me, x.said, l)
	}
	x.said = x.n.Decisions()
}

// nearlyFull answers a disk on which nearly as many blocks are as can be known.
func nearlyFull(t *testing.T) *disk.Disk {
	t.Helper()
	var recs []api.Rec
	for i := range api.MaxBlocks - 3 {
		recs = append(recs, recOf(t, api.Block{Slot: 1, Miner: 5 + i/256, Variant: i % 256}))
	}
	return recsOf(t, recs...)
}

// round is some nodes that are as promised beside bad ones.
type round struct {
	d       *dice
	seed    int
	tellers []*teller // nil for a bad one
	way     []parcel
	slot    int
}

func newRound(t *testing.T, seed int) *round {
	t.Helper()
	d := dice(seed)
	r := &round{d: &d, seed: seed, slot: 1}
	s := api.Self{Stakes: slices.Repeat([]int{1}, 1+d.next(5)), Draws: slices.Repeat([]int{127}, 200), Deep: d.next(3), Base: 1 + d.next(2), Most: 3}
	for s.Me = range s.Stakes {
		x := &teller{s: s, d: disk.New(api.MaxDisk), votes: map[vote]int{}, blocks: map[int][]byte{}}
		if seed%4 == 0 {
			x.d = nearlyFull(t)
		}
		x.n = New(s, x.d)
		r.tellers = append(r.tellers, x)
	}
	if len(s.Stakes) > 3 {
		r.tellers[d.next(len(s.Stakes))] = nil
	}
	return r
}

// lie answers what a bad one may say: also blocks, but none under another's name.
func (r *round) lie(from int) api.Msg {
	d := r.d
	value := []int{0, of(r.slot, from), of(max(1, r.slot-1), d.next(5)), of(r.slot, d.next(5))}[d.next(4)]
	m := api.Msg{Kind: 1 + d.next(6), From: from, Value: value}
	switch {
	case m.Kind == api.KindBlock:
		m.Value, m.Block = 0, on(value, r.slot+1, from, 1+d.next(50))
	case m.Kind == api.KindAsk:
	default:
		m.Index = d.next(r.slot + 2)
		if m.Kind != api.KindDecided {
			m.View = d.next(3)
		}
		if m.Kind == api.KindPropose {
			m.Prepared = d.next(m.View+1) - 1
		}
	}
	return m
}

// send puts on its way what a node sends; some of it is lost at once.
func (r *round) send(from int, l []api.Packet) {
	for _, p := range l {
		for to := range r.tellers {
			if to != from && (p.To == -1 || p.To == to) && r.d.next(9) > 0 {
				r.way = append(r.way, parcel{to, p.Data})
			}
		}
	}
	if len(r.way) > 300 {
		r.way = r.way[100:]
	}
}

// step has anything happen; in a slot that goes on nodes are Ticked more than once, and begin anew in the midst of it.
func (r *round) step(t *testing.T) {
	t.Helper()
	i := r.d.next(len(r.tellers))
	x := r.tellers[i]
	if x == nil {
		r.send(i, []api.Packet{{To: -1, Data: dataOf(t, r.lie(i))}})
		return
	}
	var sent []api.Packet
	switch what := r.d.next(100); {
	case what < 10:
		if r.slot += r.d.next(2) * r.d.next(2) * r.d.next(2); r.slot > 190 {
			r.slot = 190
		}
		sent = x.n.Tick(r.slot)
	case what < 14:
		sent, _ = x.n.Submit(api.Tx{ID: 1 + r.d.next(1000), Fee: r.d.next(9)})
	case what < 18:
		room := api.MaxDisk
		if r.d.next(3) == 0 {
			room = len(x.d.Bytes()) + r.d.next(300)
		}
		x.crash(t, r.seed, r.d.next(2)*r.d.next(60), room)
	case len(r.way) > 0:
		at := r.d.next(len(r.way))
		l := r.way[at]
		if r.d.next(8) > 0 {
			r.way = slices.Delete(r.way, at, at+1)
		}
		if i, x = l.to, r.tellers[l.to]; x == nil {
			return
		}
		sent = x.n.Handle(l.data)
	}
	if x.n.Down() && len(sent) > 0 {
		t.Fatalf("seed %d: node %d is down, and sends %+v", r.seed, i, saysOf(sent))
	}
	x.hear(t, r.seed, sent)
	r.send(i, sent)
}

// TestSafety: whatever is lost, late or comes twice, whoever lies, and how often a disk crashes or is full: no node says two things where it may say one, and what it finds decided is what it said.
func TestSafety(t *testing.T) {
	votes, blocks, decided, full := 0, 0, 0, 0
	for seed := range 240 {
		r := newRound(t, seed)
		for range 700 {
			r.step(t)
		}
		var longest []int
		for _, x := range r.tellers {
			if x == nil {
				continue
			}
			votes, blocks = votes+len(x.votes), blocks+len(x.blocks)
			if len(x.said) > len(longest) {
				longest = x.said
			}
			if len(x.n.chain.Tree().Names()) == api.MaxBlocks {
				full++
			}
		}
		decided += len(longest)
		for _, x := range r.tellers {
			if x != nil && !slices.Equal(x.said, longest[:len(x.said)]) {
				t.Fatalf("seed %d: node %d decided %v beside %v", seed, x.s.Me, x.said, longest)
			}
		}
	}
	if votes < 5000 || blocks < 1000 || decided < 1000 || full < 40 {
		t.Error("too little happens: votes, blocks, decisions, full ones:", votes, blocks, decided, full)
	}
	t.Log("votes, blocks, decisions, full ones:", votes, blocks, decided, full)
}
