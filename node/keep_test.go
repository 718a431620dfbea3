package node

import (
	"bytes"
	"slices"
	"testing"

	"neaptide/api"
	"neaptide/disk"
)

// TestKeep: each vote and each decision is written and synced once, ahead of being sent, with all that was written before.
func TestKeep(t *testing.T) {
	d := disk.New(1000)
	n := New(who(1, 4), d)
	b := on(0, 1, 0)
	name := of(1, 0)
	n.Clock(1)
	hand(t, n, blockOf(0, b))
	sends(t, "begun", n.Tick(1), all(blockOf(1, b)))
	holds(t, "begun", d, 0, recOf(t, b))
	sends(t, "proposed", hand(t, n, proposeOf(0, 0, 0, name, -1)), all(prepareOf(1, 0, 0, name)))
	l := []api.Rec{recOf(t, b), rec4(0, 0, name)}
	holds(t, "proposed", d, 2, l...)
	sends(t, "again", n.Tick(1), all(prepareOf(1, 0, 0, name)), all(blockOf(1, b)))
	holds(t, "again", d, 2, l...)
	sends(t, "prepared", hand(t, n, prepareOf(0, 0, 0, name), prepareOf(3, 0, 0, name)), all(commitOf(1, 0, 0, name)))
	l = append(l, rec5(0, 0, name))
	holds(t, "prepared", d, 3, l...)
	sends(t, "again", n.Tick(1), all(prepareOf(1, 0, 0, name)), all(commitOf(1, 0, 0, name)), all(blockOf(1, b)))
	holds(t, "again", d, 3, l...)
	sends(t, "committed", hand(t, n, commitOf(0, 0, 0, name), commitOf(2, 0, 0, name)), all(decidedOf(1, 0, name)))
	l = append(l, rec6(0, name))
	holds(t, "committed", d, 4, l...)
	sends(t, "the next index", n.Tick(1), all(proposeOf(1, 1, 0, name, -1)), all(prepareOf(1, 1, 0, name)), all(blockOf(1, b)))
	l = append(l, rec4(1, 0, name))
	holds(t, "the next index", d, 5, l...)
	tells(t, "the next index", n, look{slot: 1, tip: name, confirmed: name, decisions: []int{name}})
}

// TestKeepNothing: votes for nothing are written too, each in its view.
func TestKeepNothing(t *testing.T) {
	d := disk.New(1000)
	s := who(1, 4)
	s.Base, s.Most = 1, 1
	n := New(s, d)
	sends(t, "begun", n.Tick(1))
	sends(t, "over", n.Tick(1), all(prepareOf(1, 0, 0, -1)))
	sends(t, "over", n.Tick(1), all(commitOf(1, 0, 0, -1)), all(prepareOf(1, 0, 0, -1)))
	sends(t, "over", n.Tick(1), all(proposeOf(1, 0, 1, 0, -1)), all(prepareOf(1, 0, 1, 0)))
	holds(t, "over", d, 3, rec4(0, 0, -1), rec5(0, 0, -1), rec4(0, 1, 0))
}

// TestKeepSaidToOne: what is said to one alone isn't written.
func TestKeepSaidToOne(t *testing.T) {
	d := disk.New(1000)
	n := New(who(1, 4), d)
	hand(t, n, decidedOf(0, 0, 0), decidedOf(2, 0, 0), decidedOf(3, 1, 0), decidedOf(0, 1, 0))
	l := []api.Rec{rec6(0, 0), rec6(1, 0)}
	holds(t, "decided", d, 2, l...)
	for _, m := range []api.Msg{proposeOf(0, 0, 0, 0, -1), prepareOf(0, 0, 3, -1), commitOf(0, 0, 1000, 0)} {
		sends(t, "one behind", hand(t, n, m), to(0, decidedOf(1, 0, 0)))
	}
	sends(t, "one behind", hand(t, n, prepareOf(3, 1, 0, 0)), to(3, decidedOf(1, 1, 0)))
	holds(t, "one behind", d, 2, l...)
}

// TestKeepWhatCantBeSaid: a value that is no block's can be on a disk; it is kept, but has no bytes to be sent.
func TestKeepWhatCantBeSaid(t *testing.T) {
	d := recsOf(t, rec6(0, 9), rec4(1, 0, 5))
	n := New(who(1, 4), d)
	sends(t, "what it says", n.Tick(1))
	sends(t, "one behind", hand(t, n, prepareOf(0, 0, 0, 0)))
	holds(t, "one behind", d, 2, rec6(0, 9), rec4(1, 0, 5))
	tells(t, "one behind", n, look{slot: 1, decisions: []int{9}})
}

// event is what a call does to a disk: it writes a record, or it syncs.
type event struct {
	write []byte
	sync  bool
}

// deed is a call, and what it does to the disk, if there is room.
type deed struct {
	do     func(n *Node) []api.Packet
	events []event
}

// writes answers the events of records, of which each is synced or none.
func writes(t *testing.T, synced bool, recs ...api.Rec) []event {
	t.Helper()
	var l []event
	for _, r := range recs {
		l = append(l, event{write: bytesOf(t, r)})
		if synced {
			l = append(l, event{sync: true})
		}
	}
	return l
}

// handled answers a deed: messages come. None writes but the last one.
func handled(t *testing.T, events []event, l ...api.Msg) deed {
	t.Helper()
	return deed{func(n *Node) []api.Packet { return hand(t, n, l...) }, events}
}

// ticked answers a deed: time goes on.
func ticked(slot int, events []event) deed {
	return deed{func(n *Node) []api.Packet { return n.Tick(slot) }, events}
}

// play does the deeds on a disk with a room, beside one with room for all, and tells it, if one of them isn't done as it was there or isn't undone where there is no room.
func play(t *testing.T, s api.Self, room int, deeds []deed) bool {
	t.Helper()
	d, n, free := disk.New(room), (*Node)(nil), New(s, disk.New(api.MaxDisk))
	n = New(s, d)
	var on []byte
	synced, down := 0, false
	for i, x := range deeds {
		for _, e := range x.events {
			switch {
			case down:
			case e.sync:
				synced = len(on)
			case len(on)+len(e.write) > room:
				down = true
			default:
				on = append(on, e.write...)
			}
		}
		got, want := x.do(n), x.do(free)
		if n.Down() != down || !bytes.Equal(d.Bytes(), on) || d.Synced() != synced {
			t.Fatalf("room %d, deed %d: down is %v, on the disk %v, synced %d, not %v, %v, %d", room, i, n.Down(), d.Bytes(), d.Synced(), down, on, synced)
		}
		same := func(a, b api.Packet) bool { return a.To == b.To && bytes.Equal(a.Data, b.Data) }
		if down && len(got) > 0 || !down && !slices.EqualFunc(got, want, same) {
			t.Fatalf("room %d, deed %d: sent is %+v beside %+v", room, i, saysOf(got), saysOf(want))
		}
	}
	return down
}

// TestRooms: whatever room there is, what is written is what there is room for, one behind the other; at the first record without room the node is down, and all that is left out is nothing more.
func TestRooms(t *testing.T) {
	name := of(1, 0)
	own := func(parent, slot, miner int) []event {
		return writes(t, true, recOf(t, on(parent, slot, miner)))
	}
	votes := func(index, value int) []event {
		return writes(t, true, rec4(index, 0, value), rec5(index, 0, value), rec6(index, value))
	}
	long := writes(t, false, recOf(t, on(0, 1, 0)), recOf(t, on(name, 2, 1, 4, 5, 6)), recOf(t, on(of(2, 1), 3, 2)))
	for what, c := range map[string]struct {
		s     api.Self
		deeds []deed
	}{
		"alone": {miner(0, 1), []deed{
			ticked(1, append(own(0, 1, 0), votes(0, name)...)),
			ticked(2, append(own(name, 2, 0), votes(1, of(2, 0))...)),
		}},
		"alone, without blocks": {who(0, 1), []deed{ticked(7, votes(0, 0)), ticked(7, votes(1, 0)), ticked(8, votes(2, 0))}},
		"many at once": {who(3, 4), []deed{
			ticked(9, nil),
			handled(t, nil, blockOf(0, on(name, 2, 1, 4, 5, 6)), blockOf(1, on(of(2, 1), 3, 2))),
			handled(t, long, blockOf(0, on(0, 1, 0))),
			handled(t, writes(t, true, rec4(0, 0, name)), proposeOf(0, 0, 0, name, -1)),
			handled(t, writes(t, false, recOf(t, on(name, 4, 1))), blockOf(2, on(name, 4, 1))),
			handled(t, writes(t, true, rec5(0, 0, name)), prepareOf(0, 0, 0, name), prepareOf(2, 0, 0, name)),
			ticked(10, nil),
			handled(t, writes(t, true, rec6(0, name)), commitOf(0, 0, 0, name), commitOf(2, 0, 0, name)),
		}},
	} {
		whole := 0
		for _, x := range c.deeds {
			for _, e := range x.events {
				whole += len(e.write)
			}
		}
		for room := range whole + 10 {
			if down := play(t, c.s, room, c.deeds); down != (room < whole) {
				t.Errorf("%s: room %d of %d: down is %v", what, room, whole, down)
			}
		}
	}
}

// TestDown: who is down says and tells nothing, whatever happens, also when there is room again; behind New it is as it was written.
func TestDown(t *testing.T) {
	d := disk.New(70)
	s := miner(0, 1)
	n := New(s, d)
	n.Submit(api.Tx{ID: 4})
	n.Tick(1)
	want := look{slot: 1, tip: of(1, 0), confirmed: of(1, 0), decisions: []int{of(1, 0)}, final: []int{4}, avail: []int{4}}
	tells(t, "before", n, want)
	d.Limit(len(d.Bytes()))
	n.Submit(api.Tx{ID: 5})
	before := d.Bytes()
	for range 2 {
		sends(t, "down", n.Tick(2))
		d.Limit(api.MaxDisk)
		n.Clock(7)
		sends(t, "down", n.Tick(3))
		sends(t, "down", hand(t, n, txOf(0, 5, 1), blockOf(0, on(of(1, 0), 2, 0)), askOf(0, of(1, 0)), prepareOf(0, 0, 0, 0)))
		for _, x := range []api.Tx{{ID: 9}, {}, {ID: 5}} {
			if l, e := n.Submit(x); len(l) > 0 || e != api.ErrDown {
				t.Error("submitted:", l, e)
			}
		}
		if got := lookAt(n); !n.Down() || !got.same(look{}) {
			t.Errorf("down is %v, and told %+v", n.Down(), got)
		}
		if !bytes.Equal(d.Bytes(), before) || d.Synced() != len(before) {
			t.Error("on the disk is", d.Bytes())
		}
	}
	tells(t, "behind New", New(s, d), want)
}
