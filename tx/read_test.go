package tx

import (
	"bytes"
	"slices"
	"testing"

	"neaptide/api"
)

// loose answers the numbers of bytes in whatever form, and forgets what doesn't end: who asks holds their form against the bytes then.
func loose(b []byte) []int {
	var nums []int
	n, shift := 0, 0
	for _, c := range b {
		n |= int(c&127) << shift
		shift += 7
		if c < 128 {
			nums = append(nums, n-1)
			n, shift = 0, 0
		}
	}
	return nums
}

// between tells whether a transaction's numbers are within their bounds.
func between(x api.Tx) bool { return 1 <= x.ID && x.ID <= 1000000 && 0 <= x.Fee && x.Fee <= 1000 }

// wanted answers the transaction that Read is to find.
func wanted(b []byte) (api.Tx, api.Errno) {
	nums := loose(b)
	if len(nums) != 2 {
		return api.Tx{}, api.ErrTx
	}
	x := api.Tx{ID: nums[0], Fee: nums[1]}
	if !between(x) || !bytes.Equal(form(x), b) {
		return api.Tx{}, api.ErrTx
	}
	return x, api.OK
}

// wantedList answers the transactions that ReadList is to find.
func wantedList(b []byte) ([]api.Tx, api.Errno) {
	nums := loose(b)
	if len(nums)%2 != 1 || len(nums) > 7 || nums[0] != len(nums)/2 {
		return nil, api.ErrTx
	}
	var l []api.Tx
	ids := map[int]bool{}
	for i := 1; i < len(nums); i += 2 {
		x := api.Tx{ID: nums[i], Fee: nums[i+1]}
		if !between(x) || ids[x.ID] {
			return nil, api.ErrTx
		}
		ids[x.ID] = true
		l = append(l, x)
	}
	if !bytes.Equal(listForm(l), b) {
		return nil, api.ErrTx
	}
	return l, api.OK
}

// reads tells it, if Read or ReadList finds something else than is to be found.
func reads(t *testing.T, b []byte) {
	t.Helper()
	want, err := wanted(b)
	if x, e := Read(b); x != want || e != err {
		t.Errorf("Read(%v): %v %d, not %v %d", b, x, e, want, err)
	}
	wantList, err := wantedList(b)
	if l, e := ReadList(b); !slices.Equal(l, wantList) || e != err {
		t.Errorf("ReadList(%v): %v %d, not %v %d", b, l, e, wantList, err)
	}
}

func TestReadFindsBytes(t *testing.T) {
	for _, x := range rightTxs() {
		if got, e := Read(form(x)); got != x || e != api.OK {
			t.Errorf("Read of %v: %v %d", x, got, e)
		}
	}
	for id := 1; id <= 1000000; id += 7 {
		x := api.Tx{ID: id, Fee: id % 1001}
		b, _ := Bytes(x)
		if got, e := Read(b); got != x || e != api.OK {
			t.Fatalf("Read of %v: %v %d", x, got, e)
		}
	}
}

func TestReadRefuses(t *testing.T) {
	no := [][]byte{
		nil, {}, {2}, {201}, {201, 1}, {2, 201}, {1, 6}, {0, 6}, {2, 0}, {0, 0}, {1, 1},
		// Something behind it.
		{2, 6, 0}, {2, 6, 2}, {2, 6, 2, 6}, {2, 6, 128},
		// More groups than needed.
		{130, 0, 6}, {2, 134, 0}, {201, 129, 0, 6}, {130, 128, 128, 0, 6},
		// The first that can't be.
		{194, 132, 61, 6}, {2, 234, 7}, {255, 255, 127, 6}, {2, 255, 127},
		// Numbers that would go round, or that layer 1 hasn't.
		{130, 128, 128, 128, 16, 6}, {130, 128, 128, 128, 128, 128, 128, 128, 128, 1, 6},
		{2, 134, 128, 128, 128, 16}, {129, 128, 128, 128, 128, 128, 128, 128, 64, 6},
		{255, 255, 255, 255, 255, 255, 255, 255, 255, 1, 6}, {255, 255, 255, 255, 255, 255, 255, 255, 255, 2, 6},
		// What is a list, and nothing of a transaction.
		{3, 2, 6, 201, 1, 1}, {2, 2, 6},
		bytes.Repeat([]byte{2}, 1<<20), bytes.Repeat([]byte{255}, 1<<20),
	}
	for _, x := range wrongTxs() {
		if x.ID >= -1 && x.Fee >= -1 && x.ID < 1<<62 && x.Fee < 1<<62 {
			no = append(no, form(x))
		}
	}
	for _, b := range no {
		if x, e := Read(b); x != (api.Tx{}) || e != api.ErrTx {
			t.Errorf("Read(%v): %v %d", b[:min(len(b), 20)], x, e)
		}
	}
}

func TestReadListFindsList(t *testing.T) {
	for _, l := range rightLists() {
		b, e := List(l)
		if e != api.OK {
			t.Fatalf("List(%v): %d", l, e)
		}
		if got, e := ReadList(b); !slices.Equal(got, l) || e != api.OK {
			t.Errorf("ReadList of %v: %v %d", l, got, e)
		}
	}
}

func TestReadListRefuses(t *testing.T) {
	no := [][]byte{
		nil, {}, {0}, {2}, {3}, {4}, {5}, {128}, {2, 2}, {3, 2, 6}, {4, 2, 6, 3, 6}, {2, 2, 6, 3}, {2, 2, 201},
		// Something behind it.
		{1, 0}, {1, 1}, {1, 2, 6}, {2, 2, 6, 0}, {2, 2, 6, 3, 6}, {3, 2, 6, 3, 6, 4, 6}, {4, 2, 6, 3, 6, 4, 6, 5, 6}, {4, 2, 6, 3, 6, 4, 6, 128},
		// More groups than needed.
		{129, 0}, {130, 0, 2, 6}, {2, 130, 0, 6}, {2, 2, 134, 0}, {3, 2, 6, 131, 0, 6},
		// How many can't be.
		{0, 2, 6}, {5, 2, 6, 3, 6, 4, 6, 5, 6}, {132, 1, 2, 6}, {130, 128, 128, 128, 16, 2, 6},
		{255, 255, 255, 255, 255, 255, 255, 255, 255, 1}, {129, 128, 128, 128, 128, 128, 128, 128, 64},
		{130, 128, 128, 128, 128, 128, 128, 128, 64}, {129, 128, 128, 128, 128, 128, 128, 128, 128, 1},
		bytes.Repeat([]byte{4}, 1<<20), append([]byte{33}, bytes.Repeat([]byte{2}, 64)...),
	}
	for _, l := range wrongLists() {
		bad := slices.ContainsFunc(l, func(x api.Tx) bool { return x.ID < -1 || x.Fee < -1 || x.ID >= 1<<62 || x.Fee >= 1<<62 })
		if !bad {
			no = append(no, listForm(l))
		}
	}
	for _, b := range no {
		if l, e := ReadList(b); len(l) != 0 || e != api.ErrTx {
			t.Errorf("ReadList(%v): %v %d", b[:min(len(b), 20)], l, e)
		}
	}
}

// TestReadShort: of all that is short, just what is somebody's Bytes, or List, is read.
func TestReadShort(t *testing.T) {
	edges := []byte{0, 1, 2, 3, 4, 5, 126, 127, 128, 129, 130, 131, 201, 234, 255}
	for i := range 256 {
		reads(t, []byte{byte(i)})
		for j := range 256 {
			reads(t, []byte{byte(i), byte(j)})
			for _, c := range edges {
				reads(t, []byte{c, byte(i), byte(j)})
			}
		}
	}
	for _, a := range edges {
		for _, b := range edges {
			for _, c := range edges {
				for _, d := range edges {
					reads(t, []byte{a, b, c, d})
					reads(t, []byte{2, a, b, c, d})
					reads(t, []byte{3, a, b, c, d})
					reads(t, []byte{4, 9, 9, a, b, c, d})
				}
			}
		}
	}
}

// TestReadCutOff: no part of what is read is read as the same thing.
func TestReadCutOff(t *testing.T) {
	for _, x := range rightTxs() {
		b := form(x)
		for n := range b {
			reads(t, b[:n])
		}
	}
	for _, l := range rightLists() {
		b := listForm(l)
		for n := range b {
			reads(t, b[:n])
		}
	}
}

// dice answers numbers that a seed leads to.
type dice uint64

func (d *dice) next(n int) int {
	*d = *d*6364136223846793005 + 1442695040888963407
	return int(*d>>33) % n
}

// TestReadChanged: of which a byte is another one, or gone, or one too many.
func TestReadChanged(t *testing.T) {
	for seed := range 20000 {
		d := dice(seed)
		var l []api.Tx
		for range d.next(5) {
			l = append(l, api.Tx{ID: rightIDs[d.next(len(rightIDs))], Fee: rightFees[d.next(len(rightFees))]})
		}
		b := listForm(l)
		if len(l) == 1 && d.next(2) == 0 {
			b = form(l[0])
		}
		for range d.next(3) {
			at := d.next(len(b) + 1)
			switch d.next(3) {
			case 0:
				b = slices.Insert(b, at, byte(d.next(256)))
			case 1:
				b = slices.Delete(b, at, min(at+1, len(b)))
			case 2:
				if at < len(b) {
					b[at] ^= 1 << d.next(8)
				}
			}
		}
		reads(t, b)
	}
}

func TestReadSharesNothing(t *testing.T) {
	in := []byte{3, 2, 6, 201, 1, 1, 77, 77, 77}
	before := bytes.Clone(in)
	want := []api.Tx{{ID: 1, Fee: 5}, {ID: 200}}
	one, _ := ReadList(in[:6])
	two, _ := ReadList(in[:6])
	Read(in[1:3])
	clear(one[:cap(one)])
	_ = append(one, api.Tx{ID: 9})
	if !bytes.Equal(in, before) {
		t.Error("what was handed in is changed:", in)
	}
	scribble(in)
	if !slices.Equal(two, want) {
		t.Error("an answer hangs on what was handed in, or on another answer:", two)
	}
}
