package journal

import (
	"bytes"
	"math"
	"testing"

	"neaptide/api"
	"neaptide/disk"
)

// filled answers so many bytes of all values.
func filled(size int) []byte {
	b := make([]byte, size)
	for i := range b {
		b[i] = byte(i*7 + 1)
	}
	return b
}

// forms are records, each with the bytes ahead of its text.
var forms = []struct {
	rec  api.Rec
	head []byte
}{
	{api.Rec{}, []byte{5, 1, 1, 1, 1, 0}},
	{api.Rec{Text: []byte{}}, []byte{5, 1, 1, 1, 1, 0}},
	{api.Rec{Kind: -1, Index: -1, View: -1, Value: -1}, []byte{5, 0, 0, 0, 0, 0}},
	{api.Rec{Kind: 1, Index: 2, View: 3, Value: 4}, []byte{5, 2, 3, 4, 5, 0}},
	{api.Rec{Kind: -1, Index: 5, View: -1, Value: 6, Text: []byte{0}}, []byte{6, 0, 6, 0, 7, 1}},
	{api.Rec{Kind: 1, Index: 2, View: 200, Value: -1, Text: []byte("ab")}, []byte{8, 2, 3, 201, 1, 0, 2}},
	{api.Rec{Kind: 126, Index: 127, View: 128, Value: 299, Text: []byte{255, 128, 0}}, []byte{11, 127, 128, 1, 129, 1, 172, 2, 3}},
	{api.Rec{Kind: 1 << 30}, []byte{9, 129, 128, 128, 128, 4, 1, 1, 1, 0}},
	{api.Rec{Index: 1 << 30}, []byte{9, 1, 129, 128, 128, 128, 4, 1, 1, 0}},
	{api.Rec{View: 1 << 30}, []byte{9, 1, 1, 129, 128, 128, 128, 4, 1, 0}},
	{api.Rec{Value: 1 << 30}, []byte{9, 1, 1, 1, 129, 128, 128, 128, 4, 0}},
	{api.Rec{Value: 1<<30 - 1}, []byte{9, 1, 1, 1, 128, 128, 128, 128, 4, 0}},
	{api.Rec{Text: filled(122)}, []byte{127, 1, 1, 1, 1, 122}},
	{api.Rec{Text: filled(123)}, []byte{128, 1, 1, 1, 1, 1, 123}},
	{api.Rec{Text: filled(127)}, []byte{132, 1, 1, 1, 1, 1, 127}},
	{api.Rec{Text: filled(128)}, []byte{134, 1, 1, 1, 1, 1, 128, 1}},
	{api.Rec{Text: filled(1023)}, []byte{133, 8, 1, 1, 1, 1, 255, 7}},
	{api.Rec{Text: filled(1024)}, []byte{134, 8, 1, 1, 1, 1, 128, 8}},
	// The longest one.
	{api.Rec{Kind: 1 << 30, Index: 1 << 30, View: 1 << 30, Value: 1 << 30, Text: filled(1024)}, []byte{
		150, 8, 129, 128, 128, 128, 4, 129, 128, 128, 128, 4, 129, 128, 128, 128, 4, 129, 128, 128, 128, 4, 128, 8,
	}},
}

// form answers a record's bytes.
func form(head []byte, r api.Rec) []byte { return append(bytes.Clone(head), r.Text...) }

// wrong answers records that can't be.
func wrong() []api.Rec {
	var out []api.Rec
	for _, n := range []int{
		-2, -3, -128, -1 << 30, -1 << 31, -1 << 32, math.MinInt + 1, math.MinInt,
		1<<30 + 1, 1<<30 + 2, 1 << 31, 1 << 32, 1<<32 + 1, 1 << 62, 1<<62 + 1, math.MaxInt - 1, math.MaxInt,
	} {
		out = append(out, api.Rec{Kind: n}, api.Rec{Index: n}, api.Rec{View: n}, api.Rec{Value: n})
		out = append(out, api.Rec{Kind: 1, Index: 2, View: 3, Value: n, Text: []byte("ab")})
		out = append(out, api.Rec{Kind: n, Index: n, View: n, Value: n, Text: filled(1025)})
	}
	for _, size := range []int{1025, 1026, 2048, 4086, 4087, 4090, 4091, 4095, 4096, 4097, 1 << 20} {
		out = append(out, api.Rec{Text: filled(size)}, api.Rec{Kind: 6, Index: 1, View: -1, Value: 9, Text: filled(size)})
	}
	return out
}

// same tells whether two records are alike.
func same(a, b api.Rec) bool {
	return a.Kind == b.Kind && a.Index == b.Index && a.View == b.View && a.Value == b.Value && bytes.Equal(a.Text, b.Text)
}

// are tells it, if records aren't these.
func are(t *testing.T, got, want []api.Rec) {
	t.Helper()
	if len(got) != len(want) {
		t.Errorf("%d records, not %d", len(got), len(want))
		return
	}
	for i := range got {
		if !same(got[i], want[i]) {
			t.Errorf("record %d: %v, not %v", i, got[i], want[i])
		}
	}
}

// add adds what has to fit.
func add(t *testing.T, d *disk.Disk, r api.Rec) {
	t.Helper()
	if e := Add(d, r); e != api.OK {
		t.Fatalf("Add with room for %d: %d", d.Room(), e)
	}
}

func TestBytesForms(t *testing.T) {
	for _, c := range forms {
		if b, e := Bytes(c.rec); !bytes.Equal(b, form(c.head, c.rec)) || e != api.OK {
			t.Errorf("Bytes(%v): %v %d", c.rec, b, e)
		}
	}
}

func TestBytesRefuses(t *testing.T) {
	for _, r := range wrong() {
		if b, e := Bytes(r); len(b) != 0 || e != api.ErrRecord {
			t.Errorf("Bytes(%d %d %d %d and %d bytes): %v %d", r.Kind, r.Index, r.View, r.Value, len(r.Text), b, e)
		}
	}
}

func TestBytesSharesNothing(t *testing.T) {
	whole := []byte("abcdef")
	r := api.Rec{Kind: 1, Text: whole[:2]}
	one, _ := Bytes(r)
	two, _ := Bytes(r)
	one = one[:cap(one)]
	for i := range one {
		one[i] = 99
	}
	if string(whole) != "abcdef" {
		t.Errorf("what was handed in is changed: %q", whole)
	}
	copy(whole, "......")
	if want := []byte{7, 2, 1, 1, 1, 2, 'a', 'b'}; !bytes.Equal(two, want) {
		t.Errorf("%v, not %v", two, want)
	}
}

func TestAdd(t *testing.T) {
	d := disk.New(api.MaxDisk)
	var on []byte
	var recs []api.Rec
	for _, c := range forms {
		add(t, d, c.rec)
		on = append(on, form(c.head, c.rec)...)
		recs = append(recs, c.rec)
		if !bytes.Equal(d.Bytes(), on) {
			t.Fatalf("on it: %v, not %v", d.Bytes(), on)
		}
		are(t, Read(d), recs)
	}
	if d.Synced() != 0 || d.Room() != api.MaxDisk-len(on) {
		t.Errorf("synced %d, room %d", d.Synced(), d.Room())
	}
}

// TestAddRefuses: a record that can't be is told ahead of a disk that is full, and leaves nothing on it.
func TestAddRefuses(t *testing.T) {
	for _, room := range []int{0, 6, 20, api.MaxDisk} {
		d := disk.New(room)
		if room > 0 {
			add(t, d, api.Rec{Kind: 3})
			d.Sync()
		}
		before := d.Bytes()
		for _, r := range wrong() {
			if e := Add(d, r); e != api.ErrRecord {
				t.Errorf("room %d: %d", room, e)
			}
			if !bytes.Equal(d.Bytes(), before) || d.Synced() != len(before) || d.Room() != room-len(before) {
				t.Fatalf("room %d: %v", room, d.Bytes())
			}
		}
	}
}

// TestAddToFull: a record is on the disk whole, or not at all.
func TestAddToFull(t *testing.T) {
	for _, c := range forms {
		size := len(form(c.head, c.rec))
		for room := range 6 + size {
			d := disk.New(room)
			ahead := Add(d, api.Rec{Kind: 3})
			if want := room < 6; (ahead == api.ErrFull) != want {
				t.Fatalf("room %d: %d", room, ahead)
			}
			before := d.Bytes()
			if want := room-len(before) < size; want != (Add(d, c.rec) == api.ErrFull) {
				t.Errorf("room %d for %d more: full is not %t", room, size, want)
			}
			if room-len(before) < size && !bytes.Equal(d.Bytes(), before) {
				t.Errorf("room %d: a part of it is on the disk", room)
			}
		}
		d := disk.New(6 + size)
		add(t, d, api.Rec{Kind: 3})
		add(t, d, c.rec)
		are(t, Read(d), []api.Rec{{Kind: 3}, c.rec})
		if e := Add(d, api.Rec{}); e != api.ErrFull {
			t.Errorf("a full one: %d", e)
		}
	}
}

// TestAddBehindFull: a lesser one may fit where a greater one didn't.
func TestAddBehindFull(t *testing.T) {
	d := disk.New(15)
	if e := Add(d, api.Rec{Text: filled(20)}); e != api.ErrFull {
		t.Error(e)
	}
	add(t, d, api.Rec{Kind: 7})
	if e := Add(d, api.Rec{Text: filled(4)}); e != api.ErrFull {
		t.Error(e)
	}
	add(t, d, api.Rec{Kind: 8, Text: filled(3)})
	are(t, Read(d), []api.Rec{{Kind: 7}, {Kind: 8, Text: filled(3)}})
}

func TestAddKeepsNothing(t *testing.T) {
	text := []byte("abcdef")
	d := disk.New(100)
	add(t, d, api.Rec{Kind: 1, Text: text[:2]})
	add(t, d, api.Rec{Kind: 2})
	if string(text) != "abcdef" {
		t.Errorf("what was handed in is changed: %q", text)
	}
	copy(text, "......")
	are(t, Read(d), []api.Rec{{Kind: 1, Text: []byte("ab")}, {Kind: 2}})
}
