package node

import (
	"bytes"
	"slices"
	"testing"

	"neaptide/api"
	"neaptide/disk"
)

// TestNewOnNothing: a disk with nothing on it tells nothing.
func TestNewOnNothing(t *testing.T) {
	for _, room := range []int{-1, 0, 1, 100, api.MaxDisk} {
		d := disk.New(room)
		tells(t, "nothing", New(who(2, 4), d), look{})
		holds(t, "nothing", d, 0)
		if d.Room() != min(max(room, 0), api.MaxDisk) {
			t.Error("the room is changed:", d.Room())
		}
	}
}

// TestNewCuts: behind the records nothing is left, and what is left is as synced as it was.
func TestNewCuts(t *testing.T) {
	b, v := recOf(t, on(0, 1, 1, 5)), rec4(0, 0, of(1, 1))
	whole := bytesOf(t, b, v)
	first := len(bytesOf(t, b))
	for name, c := range map[string]struct {
		on   []byte
		left int
	}{
		"whole":                        {whole, len(whole)},
		"a byte behind":                {append(slices.Clone(whole), 200), len(whole)},
		"much behind":                  {append(slices.Clone(whole), slices.Repeat([]byte{255}, 50)...), len(whole)},
		"a byte less":                  {whole[:len(whole)-1], first},
		"of the second one a byte":     {whole[:first+1], first},
		"the first one":                {whole[:first], first},
		"of the first one all but one": {whole[:first-1], 0},
		"no record":                    {[]byte{255, 1, 2}, 0},
		"records behind none":          {append([]byte{255}, whole...), 0},
	} {
		for _, synced := range []int{0, 1, first, len(c.on)} {
			d := disk.New(1000)
			d.Append(c.on[:min(synced, len(c.on))])
			d.Sync()
			d.Append(c.on[min(synced, len(c.on)):])
			n := New(who(2, 4), d)
			if !bytes.Equal(d.Bytes(), c.on[:c.left]) || d.Synced() != min(synced, c.left) || d.Room() != 1000-c.left {
				t.Errorf("%s: left is %v, synced %d of %d", name, d.Bytes(), d.Synced(), synced)
			}
			want := look{}
			if c.left >= first {
				want = look{slot: 1, tip: of(1, 1), confirmed: of(1, 1), avail: []int{5}}
			}
			tells(t, name, n, want)
		}
	}
}

// TestNewIsFoundAgain: what is written behind a record that was cut off is found by the next one.
func TestNewIsFoundAgain(t *testing.T) {
	d := recsOf(t, recOf(t, on(0, 1, 1, 5)))
	d.Append([]byte{9, 9, 9})
	n := New(who(2, 4), d)
	hand(t, n, decidedOf(0, 0, of(1, 1)), decidedOf(1, 0, of(1, 1)))
	d.Crash(0)
	tells(t, "the next one", New(who(2, 4), d), look{slot: 1, tip: of(1, 1), confirmed: of(1, 1), decisions: []int{of(1, 1)}, final: []int{5}, avail: []int{5}})
}

// TestNewTakesBlocks: those of Kind 1, in their order, by their texts alone.
func TestNewTakesBlocks(t *testing.T) {
	one, two, three := on(0, 1, 1, 5), on(of(1, 1), 3, 0, 6), on(of(3, 0), 4, 3)
	wrong := recOf(t, one)
	wrong.Text = wrong.Text[1:]
	odd := recOf(t, two)
	odd.Index, odd.View, odd.Value = 7, 8, -1
	kind := func(kind int) api.Rec {
		r := recOf(t, one)
		r.Kind = kind
		return r
	}
	known := look{slot: 3, tip: of(3, 0), confirmed: of(3, 0), avail: []int{5, 6}}
	for name, c := range map[string]struct {
		recs []api.Rec
		want look
	}{
		"two":                     {[]api.Rec{recOf(t, one), recOf(t, two)}, known},
		"one and the same":        {[]api.Rec{recOf(t, one), recOf(t, one), recOf(t, two), recOf(t, one)}, known},
		"whatever else they tell": {[]api.Rec{recOf(t, one), odd}, known},
		"texts of none":           {[]api.Rec{wrong, {Kind: 1, Value: of(1, 1)}, recOf(t, one), {Kind: 1, Text: []byte{1, 2, 3}}, recOf(t, two)}, known},
		"the second one first":    {[]api.Rec{recOf(t, two), recOf(t, one)}, known},
		"the second one alone":    {[]api.Rec{recOf(t, two)}, look{slot: 3}},
		"one who doesn't win":     {[]api.Rec{recOf(t, one), recOf(t, on(0, 7, 2, 9)), recOf(t, two)}, look{slot: 7, tip: of(3, 0), confirmed: of(3, 0), avail: []int{5, 6}}},
		"the last slot":           {[]api.Rec{recOf(t, on(0, 4095, 1))}, look{slot: 4095}},
		"in turns":                {[]api.Rec{recOf(t, three), recOf(t, on(0, 2, 0)), recOf(t, one), recOf(t, two)}, look{slot: 4, tip: of(4, 3), confirmed: of(4, 3), avail: []int{5, 6}}},
		"of other kinds":          {[]api.Rec{kind(0), kind(2), kind(3), kind(4), kind(5), kind(6), kind(7), kind(-1)}, look{decisions: []int{of(1, 1)}}},
	} {
		d := recsOf(t, c.recs...)
		tells(t, name, New(who(2, 4), d), c.want)
		holds(t, name, d, len(c.recs), c.recs...)
	}
}

// TestNewForgetsTheSecondOfAName: of two with one name the first one is known.
func TestNewForgetsTheSecondOfAName(t *testing.T) {
	n := New(who(2, 4), recsOf(t, recOf(t, on(0, 1, 1, 5)), recOf(t, on(0, 1, 1, 6))))
	sends(t, "asked for", hand(t, n, askOf(3, of(1, 1))), to(3, blockOf(2, on(0, 1, 1, 5))))
}

// TestNewSlotIsOver: in the slot of a block on the disk none is made.
func TestNewSlotIsOver(t *testing.T) {
	for _, b := range []api.Block{on(0, 5, 0), on(of(4, 1), 5, 1), on(0, 5, 6)} {
		s := miner(0, 4)
		s.Draws[4] = 63
		n := New(s, recsOf(t, recOf(t, b)))
		if n.Slot() != 5 {
			t.Error("the slot is", n.Slot())
		}
		for _, p := range saysOf(n.Tick(5)) {
			if p.Msg.Kind == api.KindBlock && p.Msg.Block.Slot == 5 && p.Msg.Block.Miner != b.Miner {
				t.Error("made is", p.Msg.Block)
			}
		}
		if n.Tick(6); n.Tip() != of(6, 0) {
			t.Error("the tip is", n.Tip())
		}
	}
}

// TestNewRestores: its votes and decisions are those on the disk, and aren't written again.
func TestNewRestores(t *testing.T) {
	b := on(0, 1, 1, 5)
	name := of(1, 1)
	l := []api.Rec{rec4(0, 0, 0), rec6(0, 0), rec6(2, name), recOf(t, b), rec4(1, 0, name), rec5(1, 0, name), rec6(0, name), rec4(1, 1, -1)}
	d := recsOf(t, l...)
	n := New(who(2, 4), d)
	tells(t, "restored", n, look{slot: 1, tip: name, confirmed: name, decisions: []int{0}, avail: []int{5}})
	holds(t, "restored", d, len(l), l...)
	sends(t, "what it says", n.Tick(1), all(prepareOf(2, 1, 1, -1)), all(blockOf(2, b)))
	sends(t, "one behind", hand(t, n, prepareOf(3, 0, 0, 0)), to(3, decidedOf(2, 0, 0)))
	holds(t, "said again", d, len(l), l...)
	sends(t, "prepared", hand(t, n, prepareOf(0, 1, 1, -1), prepareOf(1, 1, 1, -1)), all(commitOf(2, 1, 1, -1)))
	l = append(l, rec5(1, 1, -1))
	holds(t, "prepared", d, len(l), l...)
	sends(t, "committed", hand(t, n, commitOf(0, 1, 0, name), commitOf(3, 1, 0, name)), all(decidedOf(2, 1, name)))
	l = append(l, rec6(1, name))
	holds(t, "committed", d, len(l), l...)
}

// TestNewVotesOfLater: which votes are on the disk holds for all indices and views of theirs, each kind for itself.
func TestNewVotesOfLater(t *testing.T) {
	l := []api.Rec{rec4(1, 0, 0), rec5(0, 0, 0)}
	d := recsOf(t, l...)
	n := New(who(0, 4), d)
	sends(t, "committed", hand(t, n, commitOf(1, 0, 0, 0), commitOf(2, 0, 0, 0)), all(decidedOf(0, 0, 0)))
	l = append(l, rec6(0, 0))
	holds(t, "committed", d, len(l), l...)
	n.Tick(1)
	sends(t, "proposed", hand(t, n, proposeOf(1, 1, 0, 0, -1)), all(prepareOf(0, 1, 0, 0)))
	holds(t, "a vote that is on the disk already", d, len(l), l...)
	sends(t, "prepared", hand(t, n, prepareOf(1, 1, 0, 0), prepareOf(3, 1, 0, 0)), all(commitOf(0, 1, 0, 0)))
	l = append(l, rec5(1, 0, 0))
	holds(t, "the other kind", d, len(l), l...)
}

// TestNewWantsNothing: what waits on the disk is asked for when the next block comes, and no earlier.
func TestNewWantsNothing(t *testing.T) {
	n := New(who(1, 4), recsOf(t, recOf(t, on(of(2, 0), 3, 0)), recOf(t, on(of(1, 3), 3, 2))))
	sends(t, "behind New", n.Tick(4))
	sends(t, "a block that isn't taken", hand(t, n, blockOf(0, on(0, 2, 1))))
	sends(t, "behind that", n.Tick(4))
	hand(t, n, blockOf(0, on(0, 1, 0)))
	sends(t, "behind one that is", n.Tick(4), all(blockOf(1, on(0, 1, 0))), to(2, askOf(1, of(1, 3))), to(2, askOf(1, of(2, 0))))
}

// TestNewWritesWhatWaited: what waits on the disk is known later, and written then.
func TestNewWritesWhatWaited(t *testing.T) {
	one, two := on(0, 1, 0, 5), on(of(1, 0), 2, 0)
	d := recsOf(t, recOf(t, two))
	n := New(who(1, 4), d)
	hand(t, n, blockOf(2, one))
	holds(t, "both", d, 1, recOf(t, two), recOf(t, one), recOf(t, two))
	tells(t, "both", n, look{slot: 2, tip: of(2, 0), confirmed: of(2, 0), avail: []int{5}})
	tells(t, "found again", New(who(1, 4), d), look{slot: 2, tip: of(2, 0), confirmed: of(2, 0), avail: []int{5}})
}

// TestNewForgets: what waits in the pool and what is wanted isn't on the disk.
func TestNewForgets(t *testing.T) {
	d := disk.New(1000)
	n := New(who(1, 4), d)
	n.Submit(api.Tx{ID: 4})
	n.Clock(9)
	hand(t, n, decidedOf(0, 0, of(2, 0)), blockOf(0, on(of(1, 0), 3, 0)))
	n = New(who(1, 4), d)
	tells(t, "the next one", n, look{})
	sends(t, "the next one", n.Tick(9))
	holds(t, "the next one", d, 0)
}
