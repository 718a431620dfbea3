package journal

import (
	"bytes"
	"testing"

	"neaptide/api"
	"neaptide/disk"
)

// dice answers numbers that a seed leads to.
type dice uint64

func (d *dice) next(n int) int {
	*d = *d*6364136223846793005 + 1442695040888963407
	return int(*d>>33) % n
}

// number is a number of a record, mostly near an edge of how many bytes it has.
func (d *dice) number() int {
	near := []int{0, 127, 128, 1<<14 - 1, 1 << 21, 1<<28 - 1, 1 << 30}
	return min(max(near[d.next(len(near))]+d.next(5)-2, -1), 1<<30)
}

func (d *dice) text() []byte {
	b := make([]byte, d.next(9))
	if d.next(10) == 0 {
		b = make([]byte, 120+d.next(16))
	}
	for i := range b {
		b[i] = byte(d.next(256))
	}
	return b
}

func (d *dice) rec() api.Rec {
	return api.Rec{Kind: d.number(), Index: d.number(), View: d.number(), Value: d.number(), Text: d.text()}
}

// model reads records from bytes one by one, and panics where there is no whole one.
type model struct {
	b  []byte
	at int
}

func (m *model) num() int {
	n, from := 0, m.at
	for shift := 0; ; shift += 7 {
		c := m.b[m.at]
		m.at++
		n += int(c&127) << shift
		if c < 128 {
			if c == 0 && m.at-from > 1 {
				panic("not the shortest form")
			}
			return n
		}
		if shift > 35 {
			panic("too great")
		}
	}
}

func (m *model) field() int {
	n := m.num() - 1
	if n > 1<<30 {
		panic("too great")
	}
	return n
}

func (m *model) rec() (r api.Rec, ok bool) {
	before := m.at
	defer func() {
		if recover() != nil {
			m.at = before
		}
	}()
	size := m.num()
	end := m.at + size
	r = api.Rec{Kind: m.field(), Index: m.field(), View: m.field(), Value: m.field()}
	many := m.num()
	if many > 1024 || m.at+many != end || end > len(m.b) {
		panic("the text isn't the rest, or isn't there")
	}
	r.Text = m.b[m.at:end]
	m.at = end
	return r, true
}

func (m *model) scan() (recs []api.Rec, size int) {
	for {
		r, ok := m.rec()
		if !ok {
			return recs, m.at
		}
		recs = append(recs, r)
	}
}

// TestScanAgainstModel holds Scan against the model, of records of which a byte is another one, or gone, or one too many.
func TestScanAgainstModel(t *testing.T) {
	for seed := range 4000 {
		d := dice(seed)
		var b []byte
		for range d.next(6) {
			form, e := Bytes(d.rec())
			if e != api.OK {
				t.Fatal(e)
			}
			b = append(b, form...)
		}
		for range d.next(3) {
			at := d.next(len(b) + 1)
			switch d.next(3) {
			case 0:
				b = append(b[:at], append([]byte{byte(d.next(256))}, b[at:]...)...)
			case 1:
				b = append(b[:at], b[min(at+1, len(b)):]...)
			case 2:
				if at < len(b) {
					b[at] ^= 1 << d.next(8)
				}
			}
		}
		m := model{b: b}
		want, size := m.scan()
		recs, n := Scan(b)
		if n != size {
			t.Errorf("seed %d: %d bytes of %d, not %d", seed, n, len(b), size)
		}
		are(t, recs, want)
		// Each record has one form, so that those found lead back to the bytes they were.
		var back []byte
		for _, r := range recs {
			form, _ := Bytes(r)
			back = append(back, form...)
		}
		if !bytes.Equal(back, b[:n]) {
			t.Errorf("seed %d: another form", seed)
		}
	}
}

// TestCrash: wherever it is cut off, all that were synced are found, and of those behind as many as are whole.
func TestCrash(t *testing.T) {
	recs := []api.Rec{{Kind: 4, Index: 1}, {Kind: 5, Index: 1, Text: []byte("ab")}, {Kind: 6, Value: 200}, {Kind: 1, Text: filled(300)}, {}}
	for synced := range len(recs) + 1 {
		ends := []int{}
		made := func() *disk.Disk {
			d := disk.New(1000)
			ends = ends[:0]
			for i, r := range recs {
				if i == synced {
					d.Sync()
				}
				add(t, d, r)
				ends = append(ends, len(d.Bytes()))
			}
			if synced == len(recs) {
				d.Sync()
			}
			return d
		}
		loose := len(made().Bytes()) - made().Synced()
		for keep := -2; keep < loose+3; keep++ {
			d := made()
			left := d.Synced() + min(max(keep, 0), loose)
			d.Crash(keep)
			whole := 0
			for _, end := range ends {
				if end <= left {
					whole++
				}
			}
			are(t, Read(d), recs[:whole])
			if whole < synced {
				t.Errorf("%d of %d that were synced", whole, synced)
			}
		}
	}
}

// TestBehindCrashes: cut behind what is found, a disk takes more, crash for crash, and none that was synced is ever lost.
func TestBehindCrashes(t *testing.T) {
	for seed := range 200 {
		d := dice(seed)
		on := disk.New(api.MaxDisk)
		var added []api.Rec
		safe := 0
		for range 120 {
			switch d.next(6) {
			case 0, 1, 2, 3:
				r := d.rec()
				add(t, on, r)
				added = append(added, r)
			case 4:
				on.Sync()
				safe = len(added)
			case 5:
				on.Crash(d.next(60) - 5)
				found, size := Scan(on.Bytes())
				if len(found) < safe || len(found) > len(added) {
					t.Fatalf("seed %d: %d records of %d, %d of them synced", seed, len(found), len(added), safe)
				}
				are(t, found, added[:len(found)])
				are(t, Read(on), found)
				on.Cut(size)
				added, safe = added[:len(found)], len(found)
			}
		}
		are(t, Read(on), added)
	}
}
