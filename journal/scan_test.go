package journal

import (
	"bytes"
	"runtime"
	"testing"

	"neaptide/api"
	"neaptide/disk"
)

// all answers the records of forms, their bytes, and where each ends.
func all() (recs []api.Rec, b []byte, ends []int) {
	for _, c := range forms {
		recs = append(recs, c.rec)
		b = append(b, form(c.head, c.rec)...)
		ends = append(ends, len(b))
	}
	return recs, b, ends
}

// scans tells it, if Scan, and Read of a disk with these bytes, don't find these records.
func scans(t *testing.T, b []byte, want []api.Rec, size int) {
	t.Helper()
	recs, n := Scan(b)
	if n != size {
		t.Errorf("%d bytes of %d, not %d", n, len(b), size)
	}
	are(t, recs, want)
	if len(b) > api.MaxDisk {
		return
	}
	d := disk.New(api.MaxDisk)
	if e := d.Append(b); e != api.OK {
		t.Fatal(e)
	}
	are(t, Read(d), want)
	if !bytes.Equal(d.Bytes(), b) || d.Synced() != 0 {
		t.Error("Read changes the disk")
	}
}

func TestScanNothing(t *testing.T) {
	scans(t, nil, nil, 0)
	scans(t, []byte{}, nil, 0)
}

func TestScanForms(t *testing.T) {
	for _, c := range forms {
		b := form(c.head, c.rec)
		scans(t, b, []api.Rec{c.rec}, len(b))
	}
	recs, b, _ := all()
	scans(t, b, recs, len(b))
}

// TestScanCutOff: wherever bytes end, what is whole ahead of it is found, and nothing else.
func TestScanCutOff(t *testing.T) {
	recs, b, ends := all()
	for n := range b {
		whole, size := 0, 0
		for i, end := range ends {
			if end <= n {
				whole, size = i+1, end
			}
		}
		scans(t, b[:n], recs[:whole], size)
	}
}

// text1024 answers a Text of some more bytes than 1024.
func text1024(more int) []byte { return append([]byte{byte(128 + more), 8}, filled(1024+more)...) }

// around answers a Text around what is inside.
func around(inside ...[]byte) []byte {
	body := bytes.Join(inside, nil)
	if len(body) < 128 {
		return append([]byte{byte(len(body))}, body...)
	}
	return append([]byte{byte(len(body)%128 + 128), byte(len(body) / 128)}, body...)
}

// noRecords answers bytes that begin with no record.
func noRecords() [][]byte {
	ones := []byte{1, 1, 1, 1}
	out := [][]byte{
		// Too short: no Text around it, or too little in it.
		{5}, {5, 1}, {5, 1, 1, 1, 1}, {6, 1, 1, 1, 1, 0}, {0}, {0, 5, 1, 1, 1, 1, 0},
		{1, 1}, {3, 1, 1, 1}, {4, 1, 1, 1, 1}, {4, 1, 1, 1, 1, 0}, {128}, {255},
		// A text of one byte, or of more, that isn't there within.
		{5, 1, 1, 1, 1, 1}, {5, 1, 1, 1, 1, 1, 'a'}, {7, 1, 1, 1, 1, 3, 'a', 'b', 'c'},
		// Something behind the text, within.
		{6, 1, 1, 1, 1, 0, 0}, {6, 1, 1, 1, 1, 0, 'a'}, {8, 1, 1, 1, 1, 2, 'a', 'b', 'c'},
		// Two records in one.
		{12, 5, 1, 1, 1, 1, 0, 5, 1, 1, 1, 1, 0}, {7, 6, 1, 1, 1, 1, 0, 0},
		// A number with more groups than needed: outside, or of each within.
		{133, 0, 1, 1, 1, 1, 0}, {133, 128, 0, 1, 1, 1, 1, 0},
		{6, 129, 0, 1, 1, 1, 0}, {6, 1, 129, 0, 1, 1, 0}, {6, 1, 1, 129, 0, 1, 0}, {6, 1, 1, 1, 129, 0, 0}, {6, 1, 1, 1, 1, 128, 0},
		{6, 128, 0, 1, 1, 1, 0}, {8, 1, 1, 1, 1, 130, 0, 'a', 'b'},
		// A number that doesn't end, or is above 2^64 - 1.
		around(ones, []byte{128}), around(bytes.Repeat([]byte{255}, 12)), append(bytes.Repeat([]byte{255}, 9), 2, 0, 0),
		around([]byte{1, 1, 1}, bytes.Repeat([]byte{128}, 9), []byte{2, 0}),
		// A text longer than 1024, or than layer 1 has one.
		around(ones, text1024(1)), around(ones, text1024(2)), around(ones, text1024(120)),
		around([]byte{129, 128, 128, 128, 4, 1, 1, 1}, text1024(1)),
		around(ones, []byte{247, 31}, filled(4087)), around(ones, []byte{250, 31}, filled(4090)),
		append([]byte{129, 32, 1, 1, 1, 1, 251, 31}, filled(4091)...),
		append([]byte{255, 255, 255, 255, 15, 1, 1, 1, 1, 0}, filled(5000)...),
	}
	// A number above 2^30, in each place.
	for _, n := range [][]byte{
		{130, 128, 128, 128, 4}, {255, 255, 255, 255, 7}, {128, 128, 128, 128, 8}, {129, 128, 128, 128, 8},
		{128, 128, 128, 128, 16}, {129, 128, 128, 128, 16}, {130, 128, 128, 128, 16},
		{129, 128, 128, 128, 128, 128, 128, 128, 64}, {130, 128, 128, 128, 128, 128, 128, 128, 64},
		{255, 255, 255, 255, 255, 255, 255, 255, 255, 1},
	} {
		for i := range 4 {
			out = append(out, around(ones[:i], n, ones[i+1:], []byte{0}), around(ones[:i], n, ones[i+1:], []byte{2, 'a', 'b'}))
		}
	}
	return out
}

// TestScanStops: what is no record ends it, whatever stands behind.
func TestScanStops(t *testing.T) {
	some, ahead, _ := all()
	for _, no := range noRecords() {
		scans(t, no, nil, 0)
		scans(t, append(bytes.Clone(ahead), no...), some, len(ahead))
		scans(t, append([]byte{5, 0, 1, 2, 3, 0}, no...), []api.Rec{{Kind: -1, Index: 0, View: 1, Value: 2}}, 6)
	}
	for _, no := range [][]byte{
		{0}, {4, 1, 1, 1, 1}, {6, 1, 1, 1, 1, 0, 0}, {9, 1, 1, 1, 130, 128, 128, 128, 4, 0}, {6, 1, 1, 1, 1, 128, 0},
		around([]byte{1, 1, 1, 1}, text1024(1)),
	} {
		behind := append(bytes.Clone(no), ahead...)
		scans(t, behind, nil, 0)
		scans(t, append(bytes.Clone(ahead), behind...), some, len(ahead))
	}
}

// TestScanMany: there is no bound on how many there are, and what stands behind a record isn't gone through again for each.
func TestScanMany(t *testing.T) {
	const many = 1 << 16
	for _, tail := range [][]byte{nil, {5, 1, 1, 1, 1}, {0}} {
		b := append(bytes.Repeat([]byte{5, 1, 2, 3, 4, 0}, many), tail...)
		var before, behind runtime.MemStats
		runtime.ReadMemStats(&before)
		recs, n := Scan(b)
		runtime.ReadMemStats(&behind)
		if len(recs) != many || n != 6*many {
			t.Fatalf("%d records, %d bytes", len(recs), n)
		}
		for i, r := range recs {
			if !same(r, api.Rec{Kind: 0, Index: 1, View: 2, Value: 3}) {
				t.Fatalf("record %d: %v", i, r)
			}
		}
		if used := behind.TotalAlloc - before.TotalAlloc; used > many*8192 {
			t.Errorf("%d bytes of memory for each record", used/many)
		}
	}
}

// TestReadFull: a disk that holds as much as one can.
func TestReadFull(t *testing.T) {
	d := disk.New(api.MaxDisk)
	many := 0
	for Add(d, api.Rec{Index: many % 100, Value: many}) == api.OK {
		many++
	}
	recs := Read(d)
	if len(recs) != many || d.Room() > 7 {
		t.Fatalf("%d records of %d, room %d", len(recs), many, d.Room())
	}
	for i, r := range recs {
		if !same(r, api.Rec{Index: i % 100, Value: i}) {
			t.Fatalf("record %d: %v", i, r)
		}
	}
}

func TestScanSharesNothing(t *testing.T) {
	in := []byte{8, 2, 3, 4, 5, 3, 'a', 'b', 'c', 7, 1, 1, 1, 1, 2, 'd', 'e', 77, 77, 77}
	spare := bytes.Clone(in)
	one, _ := Scan(in[:17])
	two, _ := Scan(in[:17])
	for i := range one {
		text := one[i].Text[:cap(one[i].Text)]
		for j := range text {
			text[j] = 'x'
		}
		if i == 0 && string(one[1].Text) != "de" {
			t.Errorf("two texts share memory: %q", one[1].Text)
		}
	}
	_ = append(one, api.Rec{Kind: 9})
	if !bytes.Equal(in, spare) {
		t.Error("what was handed in is changed:", in)
	}
	for i := range in {
		in[i] = 99
	}
	are(t, two, []api.Rec{{Kind: 1, Index: 2, View: 3, Value: 4, Text: []byte("abc")}, {Text: []byte("de")}})
}

func TestReadSharesNothing(t *testing.T) {
	want := []api.Rec{{Kind: 4, Text: []byte("abc")}, {Kind: 5, Text: []byte("d")}}
	d := disk.New(100)
	for _, r := range want {
		add(t, d, r)
	}
	one, two := Read(d), Read(d)
	for _, r := range one {
		for i := range r.Text {
			r.Text[i] = 'x'
		}
	}
	are(t, two, want)
	are(t, Read(d), want)
	d.Cut(0)
	if e := d.Append(bytes.Repeat([]byte{1}, 100)); e != api.OK {
		t.Fatal(e)
	}
	are(t, two, want)
}
